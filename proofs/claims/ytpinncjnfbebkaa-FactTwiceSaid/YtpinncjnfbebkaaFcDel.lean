/- slices.DeleteFunc of terms whose coefficient is 0, on a row of the call's own. No condition. -/
import Derived.Test.YtpinncjnfbebkaaFcRow
namespace Go.Proofs.Ytpinncjnfbebkaa
open Go.RowKit
set_option linter.unusedVariables false
set_option linter.unusedSimpArgs false
attribute [local go_sem] y_undef
theorem ent_zero (args : Array Value) (w : World) : (callFunc 62 args).run Try.prog w = .ok (.enter 62 args) w := enters_of Try.func62 (by kernel_rfl) rfl args w
theorem run_clear_tms (w : World) (ty : TypeId) (g o n c : Nat) (hn : 0 < n) (hc : ∀ j, j < n * 2 → (w.cell? ⟨g, o + j, none⟩).isSome = true) (hf : ∀ j, j < n * 2 → w.frozen? ⟨g, o + j, none⟩ = false) :
    (Builtin.clear_ #[28] ty #[.slice (some ⟨g, o, none⟩) n c]).run Try.prog w = .ok (.tuple #[]) (w.setCells g o (List.replicate (n * 2) (.int .i64 0))) := by
  have hz : (Builtin.zeroCells #[.int .i64 0, .int .i64 0] n).toList = List.replicate (n * 2) (.int .i64 0) := by
    apply List.ext_getElem
    · simp [Builtin.zeroCells]
    · intro i h1 h2
      have h3 : i % 2 = 0 ∨ i % 2 = 1 := by omega
      rcases h3 with h3 | h3 <;> simp [Builtin.zeroCells, h3]
  have hst := run_storeCells_cells (P := Try.prog) g o (List.replicate (n * 2) (.int .i64 0)) 0 w (by simpa using hc) (by simpa using hf) (by intro v hv'; rw [List.eq_of_mem_replicate hv']; rfl)
  simp only [Nat.add_zero] at hst
  obtain ⟨m, rfl⟩ : ∃ m, n = m + 1 := ⟨n - 1, by omega⟩
  have hcs : (Value.agg #[.int .i64 0, .int .i64 0]).cells = #[.int .i64 0, .int .i64 0] := rfl
  simp [Builtin.clear_, run_underlying Try.underlying28, Try.zeroValue36, hcs, hz, hst]
namespace Fa
theorem delz_step {l : Tms} {j : Nat} (hj : j < l.length) : delz (l.take (j + 1)) = delz (l.take j) ++ if (l.getD j (0, 0)).2 = 0 then [] else [l.getD j (0, 0)] := by
  unfold delz
  rw [List.take_add_one, List.filter_append]
  congr 1
  simp only [List.getElem?_eq_getElem hj, Option.toList_some, List.getD, Option.getD_some]
  by_cases h : l[j].2 = 0 <;> simp [h]
theorem delz_all : ∀ {l : Tms}, (∀ j, j < l.length → (l.getD j (0, 0)).2 ≠ 0) → delz l = l := by
  intro l h
  unfold delz
  rw [List.filter_eq_self]
  intro t ht
  obtain ⟨j, hj, rfl⟩ := List.getElem_of_mem ht
  have := h j hj
  simp only [List.getD, List.getElem?_eq_getElem hj, Option.getD_some] at this
  simp [this]
theorem delz_len (l : Tms) : (delz l).length ≤ l.length := List.length_filter_le _ _
theorem delz_upto {l : Tms} {k : Nat} (hk : k ≤ l.length) (h : ∀ j, j < k → (l.getD j (0, 0)).2 ≠ 0) : delz (l.take k) = l.take k := delz_all fun j hj => by
  rw [List.length_take] at hj
  have := h j (by omega)
  simp only [List.getD, List.getElem?_take, if_pos (show j < k by omega)]
  exact this
end Fa
/-- What the row holds while terms are struck: i terms are kept of the first j. -/
def Kp (l dk : Fa.Tms) (i j : Nat) : Prop := dk.length = l.length ∧ dk.take i = Fa.delz (l.take j) ∧ dk.drop j = l.drop j ∧ i < j ∧ (Fa.delz (l.take j)).length = i
theorem Kp.at {l dk : Fa.Tms} {i j : Nat} (h : Kp l dk i j) (hj : j < l.length) : dk.getD j (0, 0) = l.getD j (0, 0) := by
  obtain ⟨h1, _, h3, _⟩ := h
  have h4 : (dk.drop j)[0]? = (l.drop j)[0]? := by rw [h3]
  simp only [List.getElem?_drop, Nat.add_zero] at h4
  rw [List.getD_eq_getElem?_getD, List.getD_eq_getElem?_getD, h4]
theorem Kp.skip {l dk : Fa.Tms} {i j : Nat} (h : Kp l dk i j) (hj : j < l.length) (hz : (l.getD j (0, 0)).2 = 0) : Kp l dk i (j + 1) := by
  obtain ⟨h1, h2, h3, h4, h5⟩ := h
  have e : Fa.delz (l.take (j + 1)) = Fa.delz (l.take j) := by rw [Fa.delz_step hj, if_pos hz, List.append_nil]
  refine ⟨h1, by rw [e]; exact h2, ?_, by omega, by rw [e]; exact h5⟩
  have := congrArg (List.drop 1) h3
  simpa [List.drop_drop] using this
theorem Kp.keep {l dk : Fa.Tms} {i j : Nat} (h : Kp l dk i j) (hj : j < l.length) (hz : (l.getD j (0, 0)).2 ≠ 0) : Kp l (dk.set i (l.getD j (0, 0))) (i + 1) (j + 1) := by
  obtain ⟨h1, h2, h3, h4, h5⟩ := h
  have e : Fa.delz (l.take (j + 1)) = Fa.delz (l.take j) ++ [l.getD j (0, 0)] := by rw [Fa.delz_step hj, if_neg hz]
  have hi : i < dk.length := by omega
  refine ⟨by rw [List.length_set]; exact h1, ?_, ?_, by omega, by rw [e, List.length_append, h5]; rfl⟩
  · rw [e, List.take_add_one, ← h2, List.take_set_of_le (Nat.le_refl _)]
    simp [hi]
  · rw [List.drop_set_of_lt (by omega)]
    have := congrArg (List.drop 1) h3
    simpa [List.drop_drop] using this
theorem Kp.start {l : Fa.Tms} {k : Nat} (hk : k < l.length) (h : ∀ j, j < k → (l.getD j (0, 0)).2 ≠ 0) (hz : (l.getD k (0, 0)).2 = 0) : Kp l l k (k + 1) := by
  have e : Fa.delz (l.take (k + 1)) = l.take k := by rw [Fa.delz_step hk, if_pos hz, List.append_nil, Fa.delz_upto (by omega) h]
  exact ⟨rfl, e.symm, rfl, by omega, by rw [e, List.length_take]; omega⟩
theorem Kp.done {l dk : Fa.Tms} {i : Nat} (h : Kp l dk i l.length) : dk.take i = Fa.delz l ∧ (Fa.delz l).length = i := by
  obtain ⟨_, h2, _, _, h5⟩ := h
  rw [List.take_length] at h2 h5
  exact ⟨h2, h5⟩
theorem Kp.done' {l dk : Fa.Tms} {i n : Nat} (h : Kp l dk i n) (hn : l.length = n) : dk.take i = Fa.delz l ∧ (Fa.delz l).length = i := by subst hn; exact h.done
theorem flat_take : ∀ (l : Fa.Tms) (i : Nat), (l.flatMap prCells).take (i * 2) = (l.take i).flatMap prCells
  | [], i => by simp
  | t :: r, 0 => by simp
  | t :: r, i + 1 => by
    have ih := flat_take r i
    rw [show (i + 1) * 2 = i * 2 + 1 + 1 by omega, List.take_succ_cons, List.flatMap_cons, List.flatMap_cons, ← ih]
    simp [prCells]
set_option maxHeartbeats 4000000 in
set_option maxRecDepth 100000 in
theorem fdel_any (l : Fa.Tms) (v : Value) (base : Nat) (w : World) (hO : w.ownsRow base 36 2 v l.length (l.flatMap prCells)) (hm : l.length ≤ 1024) :
    Calls Try.prog 61 #[v, .func (.func 62) #[] #[]] w fun e w' => ∃ v', e = .returned v' ∧ w'.ownsRow base 36 2 v' (Fa.delz l).length ((Fa.delz l).flatMap prCells) ∧ w.grownBy w' v.ownBlock := by
  have HX := Lib.hid (idxTm_any 62 #[] ent_zero l v w (fun k => decide ((l.getD k (0, 0)).2 = 0)) (RowIn.own hO) (by unfold maxLen; omega) (fun W k hb hk => sums2_any _ _ W))
  rcases hO.2 with ⟨rfl, h0⟩ | ⟨g, cap, cur, rfl, hb, hg, hcap, hmax, hrest⟩
  · have e : l = [] := List.eq_nil_of_length_eq_zero h0
    subst e
    go_enter Try.func61, Try.ntmps61
    go_wp2_with (go_at_call 57; refine HX.out.mono ?_; rintro e w1 ⟨z, rfl, hz, hb1⟩; obtain rfl : z = -1 := (by rcases hz with ⟨h, _⟩ | ⟨k, hk, _⟩; exact h; exact absurd hk (Nat.not_lt_zero _)))
    go_ret
    exact ⟨_, rfl, World.ownsRow_nil _ _ _ _, grown_below hb1⟩
  · have HO := Lib.hid hO
    obtain ⟨n, hn⟩ : ∃ n, l.length = n := ⟨_, rfl⟩
    have HN := Lib.hid hn
    rw [hn] at hm hO HO HX hcap ⊢
    clear hn hrest hg cur
    have hmax' := hmax
    unfold maxLen at hmax'
    by_cases hall : ∀ j, j < n → (l.getD j (0, 0)).2 ≠ 0
    · have e := Fa.delz_all (l := l) (by rw [HN.out]; exact hall)
      rw [e, HN.out]
      have HAll := Lib.hid hall
      clear hall hO
      go_enter Try.func61, Try.ntmps61
      go_wp2_with (go_at_call 57; refine HX.out.mono ?_; rintro e w1 ⟨z, rfl, hz, hb1⟩; obtain rfl : z = -1 := (by rcases hz with ⟨h, _⟩ | ⟨k, hk, _, h, _⟩; exact h; exact absurd (by simpa using h) (HAll.out k hk)))
      go_ret
      exact ⟨_, rfl, own_below HO.out hb1, grown_below hb1⟩
    · have HAll := Lib.hid hall
      clear hall hO
      go_enter Try.func61, Try.ntmps61
      go_wp2_with fail
      refine HX.out.mono ?_
      rintro e w1 ⟨z, rfl, hz, hb1⟩
      obtain ⟨k, hkn, rfl, hkz, hkj⟩ : ∃ k : Nat, k < n ∧ z = k ∧ decide ((l.getD k (0, 0)).2 = 0) = true ∧ ∀ j, j < k → decide ((l.getD j (0, 0)).2 = 0) = false := by
        rcases hz with ⟨_, h⟩ | h
        · exact absurd (fun j hj => by simpa using h j hj) HAll.out
        · exact h
      have HKs := Lib.hid (Kp.start (l := l) (k := k) (by have := HN.out; omega) (fun j hj => by simpa using hkj j hj) (by simpa using hkz))
      have HW1 := Lib.hid (And.intro (own_below HO.out hb1) (grown_below (r := some g) hb1))
      have hne : ((k : Int) == -1) = false := beq_eq_false_iff_ne.2 (by omega)
      clear hz hkz hkj hb1 HX HAll
      go_wp2
      go_loopw [5, 6, 7] (fun s5 s6 _ wr => ∃ (i j : Nat) (dk : Fa.Tms), j ≤ n ∧ s5 = .int .i64 i ∧ s6 = .int .i64 j ∧ Hid (Kp l dk i j) ∧ Hid (wr.ownsRow base 36 2 (.slice (some ⟨g, 0, none⟩) n cap) n (dk.flatMap prCells) ∧ w.grownBy wr (some g))) (fun _ j _ _ => n - (intOf j).toNat)
      case atStart => exact ⟨k, k + 1, l, by omega, rfl, by first | rfl | go_num, HKs, HW1⟩
      case round =>
        obtain ⟨i, j, dk, hjn, rfl, rfl, HK, HW⟩ := hrel
        have hij := HK.out.2.2.2.1
        by_cases hlt : j < n
        · have hlt' : (j : Int) < n := by omega
          obtain ⟨hx, hy⟩ := own_cells HW.out.1 hlt
          have hat := HK.out.at (by have := HN.out; omega)
          rw [hat] at hx hy
          obtain ⟨⟨x, y⟩, hxy⟩ : ∃ t, l.getD j (0, 0) = t := ⟨_, rfl⟩
          rw [hxy] at hx hy
          simp only at hx hy
          have HXY := Lib.hid hxy
          clear hat hxy
          have HB4 := Lib.hid ((Below.refl wr.heap.size wr).alloc (Nat.le_refl _) (.cells #[.int .i64 x, .int .i64 y] 36))
          by_cases hz : y = 0
          · have hq : decide (y = 0) = true := by simp [hz]
            have hcall := Lib.hid fun W => sums2_any x y W
            rw [hq] at hcall
            have HS := Lib.hid (HK.out.skip (by have := HN.out; omega) (by rw [HXY.out]; exact hz))
            clear hq hz
            go_wp2_with (go_at_call 62; refine (hcall.out _).mono ?_; rintro e w4 ⟨rfl, hb4⟩)
            go_roundw
            case rel =>
              have hb5 := HB4.out.trans (hb4.mono HB4.out.size)
              exact ⟨i, j + 1, dk, by omega, rfl, by first | rfl | go_num, HS, Lib.hid ⟨own_below HW.out.1 hb5, grown_trans HW.out.2 (grown_below hb5)⟩⟩
            case measure => simp [intOf]; omega
          · have hq : decide (y = 0) = false := by simp [hz]
            have hcall := Lib.hid fun W => sums2_any x y W
            rw [hq] at hcall
            have HS := Lib.hid (HK.out.keep (by have := HN.out; omega) (by rw [HXY.out]; exact hz))
            clear hq hz
            have hgl : g < wr.heap.size := ((HW.out.1).lt g rfl).2
            go_wp2_with (go_at_call 62; refine (hcall.out _).mono ?_; rintro e w4 ⟨rfl, hb4⟩; have hb5 := HB4.out.trans (hb4.mono HB4.out.size); have HO4 := Lib.hid (own_below HW.out.1 hb5); obtain ⟨hx4, hy4⟩ := own_cells HO4.out (i := i) (by omega); have hf4 := HO4.out.frozenAt; have hbx : w4.cell? ⟨wr.heap.size, 0, none⟩ = some (.int .i64 x) := (hb4.cell (p := ⟨wr.heap.size, 0, none⟩) (by simp)).trans (by simp); have hby : w4.cell? ⟨wr.heap.size, 1, none⟩ = some (.int .i64 y) := (hb4.cell (p := ⟨wr.heap.size, 1, none⟩) (by simp)).trans (by simp))
            go_roundw
            case rel =>
              have h2 := own_both HO4.out i x y
              have h3 := HS.out
              rw [HXY.out] at h3
              exact ⟨i + 1, j + 1, dk.set i (x, y), by omega, by first | rfl | go_num, by first | rfl | go_num, Lib.hid h3, Lib.hid ⟨h2.1, grown_trans HW.out.2 (grown_trans (grown_below hb5) h2.2)⟩⟩
            case measure => simp [intOf]; omega
        · have hlt' : ¬ (j : Int) < n := by omega
          obtain rfl : j = n := by omega
          have hcl : ∀ ty, (Builtin.clear_ #[28] ty #[.slice (some ⟨g, i * 2, none⟩) (j - i) (cap - i)]).run Try.prog wr = .ok (.tuple #[]) (wr.setCells g (i * 2) (List.replicate ((j - i) * 2) (.int .i64 0))) := fun ty =>
            run_clear_tms wr ty g (i * 2) (j - i) (cap - i) (by omega) (fun t ht => by rw [HW.out.1.cellAt _ (by omega), List.getElem?_eq_getElem (by rw [HW.out.1.1]; omega)]; rfl) (fun t ht => HW.out.1.frozenAt _)
          have hic : ¬ cap = i := by omega
          go_wp2
          go_ret
          obtain ⟨hd1, hd2⟩ := HK.out.done' HN.out
          have h1 := own_cut HW.out.1 (i := i) (by omega)
          rw [flat_take, hd1] at h1
          have h2 := own_high (List.replicate ((j - i) * 2) (.int .i64 0)) (i * 2) h1 (Nat.le_refl _)
          rw [hd2]
          exact ⟨_, rfl, h2.1, grown_trans HW.out.2 h2.2⟩
end Go.Proofs.Ytpinncjnfbebkaa
