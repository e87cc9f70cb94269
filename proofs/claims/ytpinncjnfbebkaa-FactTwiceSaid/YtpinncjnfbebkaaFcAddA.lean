/- The code of layer 11: times; the library's Grow and Concat for two rows of terms. No condition. -/
import Derived.Test.YtpinncjnfbebkaaFcRow
import Derived.Test.YtpinncjnfbebkaaFaPts
import Derived.Lib.AppendZerosOnto
import Derived.LoopN
namespace Go.Proofs.Ytpinncjnfbebkaa
open Go.RowKit
set_option linter.unusedVariables false
set_option linter.unusedSimpArgs false
attribute [local go_sem] y_undef
namespace Fa
theorem half_at (h : Int × Int → Int × Int) (l : Tms) (k : Nat) (hk : k < l.length) : ((l.take k).map h ++ l.drop k).getD k (0, 0) = l.getD k (0, 0) := by
  rw [List.getD_eq_getElem?_getD, List.getD_eq_getElem?_getD, List.getElem?_append_right (by simp; omega)]
  simp [show min k l.length = k by omega]
theorem half_step (h : Int × Int → Int × Int) (l : Tms) (k : Nat) (hk : k < l.length) : ((l.take k).map h ++ l.drop k).set k (h (l.getD k (0, 0))) = (l.take (k + 1)).map h ++ l.drop (k + 1) := by
  have hl : ((l.take k).map h).length = k := by simp; omega
  rw [List.set_append_right _ _ (by omega), hl, Nat.sub_self, List.take_add_one, List.map_append, List.append_assoc]
  congr 1
  simp only [List.getElem?_eq_getElem hk, List.getD, Option.getD_some, Option.toList_some, List.map_cons, List.map_nil, List.singleton_append]
  rw [List.drop_eq_getElem_cons hk]
  rfl
end Fa
set_option maxHeartbeats 4000000 in
theorem ftimes_any (l : Fa.Tms) (v : Value) (a : Int) (w : World) (hv : PrsIn w v l) (hm : l.length ≤ 1024) (ha : 0 ≤ a ∧ a ≤ 1048576) (hc : ∀ j, j < l.length → -1048576 ≤ (l.getD j (0, 0)).2 ∧ (l.getD j (0, 0)).2 ≤ 1048576) :
    Calls Try.prog 41 #[v, .int .i64 a] w fun e w' => ∃ A c, e = .returned (.slice A l.length c) ∧ w'.ownsRow w.heap.size 36 2 (.slice A l.length c) l.length ((l.map (Fa.scale a)).flatMap prCells) ∧ Below w.heap.size w w' := by
  have HC := Lib.hid (fclone_any l v w hv (by omega))
  have HCo := Lib.hid hc
  obtain ⟨n, hn⟩ : ∃ n, l.length = n := ⟨_, rfl⟩
  have HN := Lib.hid hn
  rw [hn] at hm HC HCo ⊢
  clear hv hc hn
  go_enter Try.func41, Try.ntmps41
  go_wp2_with fail
  refine HC.out.mono ?_
  rintro e w1 ⟨v1, rfl, hO1, hb1⟩
  have HB1 := Lib.hid hb1
  obtain ⟨A, c, hv1, _⟩ := RowIn.own hO1
  subst hv1
  have HO1 := Lib.hid (show w1.ownsRow w.heap.size 36 2 (.slice A n c) n (((l.take 0).map (Fa.scale a) ++ l.drop 0).flatMap prCells) from by simpa using hO1)
  clear hb1 hO1 HC
  go_wp2
  go_loopw [6, 11] (fun _ i wr => ∃ k : Nat, k ≤ n ∧ i = .int .i64 k ∧ Hid (Below w.heap.size w wr ∧ wr.ownsRow w.heap.size 36 2 (.slice A n c) n (((l.take k).map (Fa.scale a) ++ l.drop k).flatMap prCells))) (fun _ i _ => n - (intOf i).toNat)
  case atStart => exact ⟨0, Nat.zero_le _, rfl, Lib.hid ⟨HB1.out, HO1.out⟩⟩
  case round =>
    clear HO1
    obtain ⟨k, hk, rfl, HK⟩ := hrel
    by_cases hlt : k < n
    · have hlt' : (k : Int) < n := by omega
      have hkl : k < l.length := by have := HN.out; omega
      obtain ⟨g, cap, hA, hbg, hgl⟩ := HK.out.2.form (by omega)
      injection hA with hA _ hcap
      subst hA hcap
      obtain ⟨hx, hy⟩ := own_cells HK.out.2 hlt
      have hfz := HK.out.2.frozenAt
      have hst := own_coef HK.out.2 hlt
      have hat := Fa.half_at (Fa.scale a) l k hkl
      rw [hat] at hx hy hst
      have hstep := Fa.half_step (Fa.scale a) l k hkl
      have hbd := HCo.out k hlt
      have e1 : Fa.scale a (l.getD k (0, 0)) = ((l.getD k (0, 0)).1, a * (l.getD k (0, 0)).2) := rfl
      rw [e1] at hstep
      have hp := Fa.mul_in ha hbd
      generalize (l.getD k (0, 0)).1 = x at *
      generalize (l.getD k (0, 0)).2 = y at *
      rw [Int.mul_comm] at hstep hp
      have w1' : IntKind.i64.wrap (y * a) = y * a := IntWalk.i64_in _ (by omega)
      have HSt := Lib.hid hst
      have HStep := Lib.hid hstep
      clear hst hstep hp hbd e1 hat
      go_wp2
      go_roundw
      case rel =>
        have h := HSt.out (y * a)
        rw [HStep.out] at h
        exact ⟨k + 1, by omega, by first | rfl | go_num, Lib.hid ⟨HK.out.1.setCell hbg _, h.1⟩⟩
      case measure => simp [intOf]; omega
    · have hlt' : ¬ (k : Int) < n := by omega
      obtain rfl : k = n := by omega
      have h := HK.out.2
      rw [show l.take k = l by rw [← HN.out, List.take_length], show l.drop k = [] by rw [← HN.out, List.drop_length], List.append_nil] at h
      have HO := Lib.hid h
      clear h
      go_wp2
      go_ret
      exact ⟨_, _, rfl, HO.out, HK.out.1⟩
theorem zero_size (n : Nat) : (Builtin.zeroCells #[.int .i64 0, .int .i64 0] n).size = n * 2 := by simp [Builtin.zeroCells]
set_option maxHeartbeats 4000000 in
set_option maxRecDepth 100000 in
theorem fgrow_any (n : Nat) (w : World) (hn : n ≤ 4096) :
    Calls Try.prog 55 #[.slice none 0 0, .int .i64 n] w fun e w' => ∃ v', e = .returned v' ∧ w'.ownsRow w.heap.size 36 2 v' 0 [] ∧ Below w.heap.size w w' := by
  by_cases h0 : n = 0
  · subst h0
    go_enter Try.func55, Try.ntmps55
    go_wp2
    go_ret
    exact ⟨_, rfl, World.ownsRow_nil _ _ _ _, Below.refl _ _⟩
  · obtain ⟨iT, hi0, hz0, hz1, hz2⟩ := info_parts Try.infoTm
    have h1 : ¬ ((n : Int) < 0) := by omega
    have h4 : (n : Int) > 0 := by omega
    have hrz : ∀ ty, (Builtin.append_ #[28, 3] ty #[.slice none 0 0, .int .i64 (n : Int)]).run Try.prog w =
        .ok (.slice (some ⟨w.heap.size, 0, none⟩) n (grownCap w n 0 36)) (w.drew.alloc (.cells (#[] ++ Builtin.zeroCells #[.int .i64 0, .int .i64 0] n ++ Builtin.zeroCells #[.int .i64 0, .int .i64 0] (grownCap w n 0 36 - n)) 36)) := fun ty => by
      have hold : (Builtin.firstCells iT.size 0 (.slice none 0 0)).run Try.prog w.drew = .ok ([] : List Value).toArray w.drew := run_firstCells_none w.drew iT.size 0 0 0
      have h := Lib.run_append_grow_zeros w 28 3 ty 36 iT _ .i64 .i64 Try.underlying28 Try.underlying3 hi0 hz0 none 0 0 [] hold n (by omega) (by omega) (by omega) (by omega) (by rw [hz2]; omega)
        (growslice_fits (by omega) (by rw [hz2]; omega))
      simp only [Nat.zero_add] at h
      exact h
    have hGn : n ≤ grownCap w n 0 36 := grownCap_ge w _ _ _
    have hG63 : grownCap w n 0 36 ≤ maxLen := grownCap_le_maxLen w n 0 36 (by unfold maxLen; omega)
    obtain ⟨G, hG⟩ : ∃ G, G = grownCap w n 0 36 := ⟨_, rfl⟩
    rw [← hG] at hrz hGn hG63
    have hG63' := hG63
    unfold maxLen at hG63'
    have HO := Lib.hid (show (w.alloc (.cells (Builtin.zeroCells #[.int .i64 0, .int .i64 0] n ++ Builtin.zeroCells #[.int .i64 0, .int .i64 0] (G - n)) 36)).drew.ownsRow w.heap.size 36 2 (.slice (some ⟨w.heap.size, 0, none⟩) 0 G) 0 [] from World.ownsRow_made (base := w.heap.size) (e := 36) (size := 2) w.drew (Builtin.zeroCells #[.int .i64 0, .int .i64 0] n ++ Builtin.zeroCells #[.int .i64 0, .int .i64 0] (G - n)) G (Nat.le_refl _) hG63 (by rw [Array.size_append, zero_size, zero_size]; omega))
    have HB := Lib.hid (show Below w.heap.size w (w.alloc (.cells (Builtin.zeroCells #[.int .i64 0, .int .i64 0] n ++ Builtin.zeroCells #[.int .i64 0, .int .i64 0] (G - n)) 36)).drew from (below_drewN w.heap.size w 1).alloc (Nat.le_refl _) (.cells (Builtin.zeroCells #[.int .i64 0, .int .i64 0] n ++ Builtin.zeroCells #[.int .i64 0, .int .i64 0] (G - n)) 36))
    clear hG hi0 hz0 hz1 hz2
    go_enter Try.func55, Try.ntmps55
    go_wp2_with (at_builtin; refine Lib.wpList_append_run _ rfl _ _ _ _ rfl _ _ rfl rfl _ _ (hrz _) ?_)
    all_goals (go_ret; exact ⟨_, rfl, HO.out, HB.out⟩)
end Go.Proofs.Ytpinncjnfbebkaa
