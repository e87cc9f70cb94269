/- The law's operations of a few variables. No condition. -/
import Derived.Test.YtojnhdkclabkgaaGrOwn
import Derived.LoopTactic
import Derived.BigQuiet
import Derived.Deep.DeepCutAuto
import Derived.Deep.CutBlock
import Derived.StillTailTactics
namespace Go.Proofs.Ytojnhdkclabkgaa
open Go.RowKit
set_option linter.unusedVariables false
set_option linter.unusedSimpArgs false
attribute [local go_sem] y_undef
namespace Fo
/-- The operation of three bytes. -/
def opOf (x y z : Int) : Gr.Op :=
  if x / 5 % 5 = 0 then ⟨1, x % 5, 0, 0, y - 100⟩
  else if x / 5 % 5 = 1 then ⟨2, x % 5, y % 5, 0, 0⟩
  else if x / 5 % 5 = 2 then ⟨4, x % 5, y % 5, 0, 0⟩
  else if x / 5 % 5 = 3 then ⟨5, 0, x % 5, y % 5, 0⟩
  else ⟨3, x % 5, y % 5, z % 5, 1 + z % 14⟩
def opsTo (l : List Int) (k : Nat) : List Gr.Op := (List.range k).map fun i => opOf (l.getD (3 * i) 0) (l.getD (3 * i + 1) 0) (l.getD (3 * i + 2) 0)
def opsN (l : List Int) : Nat := min (l.length / 3) 30
theorem opsTo_succ (l : List Int) (k : Nat) : opsTo l (k + 1) = opsTo l k ++ [opOf (l.getD (3 * k) 0) (l.getD (3 * k + 1) 0) (l.getD (3 * k + 2) 0)] := by
  unfold opsTo
  rw [List.range_succ, List.map_append]
  rfl
theorem opsTo_len (l : List Int) (k : Nat) : (opsTo l k).length = k := by unfold opsTo; simp
end Fo
theorem lit_op (u : World) (o : Gr.Op) (g : Nat) (hg : g = u.heap.size) : RowIn 5 (u.alloc (.cells #[.int .i64 o.kind, .int .i64 o.dst, .int .i64 o.a, .int .i64 o.b, .int .i64 o.imm] 27)) (.slice (some ⟨g, 0, none⟩) 1 1) 1 (opCells o) := by
  subst hg
  refine ⟨_, 1, rfl, rfl, .inr ⟨_, 0, rfl, by simp, fun j x hj => ?_⟩⟩
  have hb := heap_alloc_new u (.cells #[.int .i64 o.kind, .int .i64 o.dst, .int .i64 o.a, .int .i64 o.b, .int .i64 o.imm] 27)
  rw [cell_of_row _ _ _ _ _ _ hb, Nat.zero_add]
  simpa [opCells] using hj
theorem one_op1 {o : Gr.Op} : ∀ u ∈ opCells o, u.oneCell' = true := by
  intro u hu
  simp [opCells] at hu
  rcases hu with rfl | rfl | rfl | rfl | rfl <;> rfl
/-- Operations in the making. -/
def Om (w : World) (y : Value) (l : List Gr.Op) (u : World) : Prop := Below w.heap.size w u ∧ u.ownsRow w.heap.size 27 5 y l.length (l.flatMap opCells)
theorem Om.below {w u u' : World} {y : Value} {l : List Gr.Op} (h : Om w y l u) (hb : Below u.heap.size u u') : Om w y l u' := ⟨blt h.1 hb, own_below h.2 hb⟩
theorem Om.app {w u u' : World} {y y' : Value} {l : List Gr.Op} {o : Gr.Op} (h : Om w y l u) (hown : u'.ownsRow w.heap.size 27 5 y' (l.length + 1) (l.flatMap opCells ++ opCells o)) (hg : u.grownBy u' y.ownBlock) : Om w y' (l ++ [o]) u' :=
  ⟨h.1.grown hg h.1.size (fun k hk => (h.2.lt k hk).1), by simpa using hown⟩
set_option maxHeartbeats 4000000 in
set_option maxRecDepth 100000 in
theorem ops_any (l : List Int) (v : Value) (w : World) (hv : IntsIn .u8 w v l) (hb : ∀ z ∈ l, 0 ≤ z ∧ z ≤ 255) (hl : l.length ≤ maxLen) :
    Calls Try.prog 7 #[v] w fun e w' => ∃ y, e = .returned y ∧ Om w y (Fo.opsTo l (Fo.opsN l)) w' := by
  obtain ⟨A, cA, rfl, hcs⟩ : ∃ (A : Option Addr) (c : Nat), v = .slice A l.length c ∧ ∀ i, i < l.length → ∃ b off, A = some ⟨b, off, none⟩ ∧ b < w.heap.size ∧ w.cell? ⟨b, off + i, none⟩ = some (.int .u8 (l.getD i 0)) := by
    rcases hv with ⟨rfl, A, c, rfl⟩ | ⟨b, off, c, h0, rfl, hlt, hc⟩
    · exact ⟨A, c, rfl, fun i hi => absurd hi (Nat.not_lt_zero _)⟩
    · exact ⟨_, c, rfl, fun i hi => ⟨b, off, rfl, hlt, hc i hi⟩⟩
  have HC := Lib.hid hcs
  have HBd := Lib.hid (show ∀ i, 0 ≤ l.getD i 0 ∧ l.getD i 0 ≤ 255 from fun i => by
    rcases Nat.lt_or_ge i l.length with h | h
    · exact hb _ (by rw [List.getD_eq_getElem?_getD, List.getElem?_eq_getElem h]; exact List.getElem_mem h)
    · rw [List.getD_eq_getElem?_getD, List.getElem?_eq_none h]; simp)
  obtain ⟨n, hn⟩ : ∃ n, l.length = n := ⟨_, rfl⟩
  have HN := Lib.hid hn
  rw [hn] at HC hl ⊢
  unfold maxLen at hl
  clear hv hb hcs hn
  obtain ⟨iTO, hi0, hz0, hz1, hz2⟩ := info_parts info_op
  have HTO := Lib.hid (And.intro hi0 (And.intro hz0 (And.intro hz1 hz2)))
  clear hi0 hz0 hz1 hz2
  have HZ := Lib.hid (show Om w (.slice none 0 0) (Fo.opsTo l 0) w from ⟨Below.refl _ _, World.ownsRow_nil _ _ _ _⟩)
  go_enter Try.func7, Try.ntmps7
  go_wp2
  go_loopw [3, 4, 5, 6, 7] (fun v i _ _ _ wr => ∃ (k : Nat) (y : Value), k ≤ Fo.opsN l ∧ i = .int .i64 (3 * k : Nat) ∧ y = v ∧ Hid (Om w y (Fo.opsTo l k) wr)) (fun _ i _ _ _ _ => 90 - (intOf i).toNat)
  case atStart => exact ⟨0, _, Nat.zero_le _, rfl, rfl, HZ⟩
  case round =>
    clear HZ
    obtain ⟨k, y, hk, rfl, rfl, HZ⟩ := hrel
    have hk3 : k ≤ n / 3 ∧ k ≤ 30 := by have := HN.out; unfold Fo.opsN at hk; omega
    obtain ⟨j, hj⟩ : ∃ j : Nat, 3 * k = j := ⟨_, rfl⟩
    have HJ := Lib.hid hj
    rw [hj]
    have e2 : wrap64 ((j : Int) + 2) = ((j + 2 : Nat) : Int) := by rw [IntWalk.wrap64_in _ (by omega)]; omega
    by_cases hlt : k < Fo.opsN l
    · have hlt3 : k < n / 3 ∧ k < 30 := by have := HN.out; unfold Fo.opsN at hlt; omega
      have t1 : ((j + 2 : Nat) : Int) < (n : Int) := by omega
      have t2 : (j : Int) < 90 := by omega
      have e1 : wrap64 ((j : Int) + 1) = ((j + 1 : Nat) : Int) := by rw [IntWalk.wrap64_in _ (by omega)]; omega
      have e3 : wrap64 ((j : Int) + 3) = ((3 * (k + 1) : Nat) : Int) := by rw [IntWalk.wrap64_in _ (by omega)]; omega
      have t0 : (j : Int) < (n : Int) := by omega
      have t3 : ((j + 1 : Nat) : Int) < (n : Int) := by omega
      obtain ⟨b, off, rfl, hbb, x0⟩ := HC.out j (by omega)
      obtain ⟨b1, off1, eA, -, x1⟩ := HC.out (j + 1) (by omega)
      obtain ⟨b2, off2, eB, -, x2⟩ := HC.out (j + 2) (by omega)
      injection eA with eA
      injection eA with eA1 eA2 eA3
      injection eB with eB
      injection eB with eB1 eB2 eB3
      subst eA1 eA2 eB1 eB2
      obtain ⟨p, hp⟩ : ∃ z, l.getD j 0 = z := ⟨_, rfl⟩
      obtain ⟨q, hq⟩ : ∃ z, l.getD (j + 1) 0 = z := ⟨_, rfl⟩
      obtain ⟨r, hr⟩ : ∃ z, l.getD (j + 2) 0 = z := ⟨_, rfl⟩
      have hp1 := HBd.out j
      have hq1 := HBd.out (j + 1)
      have hr1 := HBd.out (j + 2)
      rw [hp] at x0 hp1
      rw [hq] at x1 hq1
      rw [hr] at x2 hr1
      have HS := Lib.hid (show Fo.opsTo l (k + 1) = Fo.opsTo l k ++ [Fo.opOf p q r] by rw [Fo.opsTo_succ, HJ.out, hp, hq, hr])
      clear hp hq hr
      replace x0 := (HZ.out.1.cell (p := ⟨b, off + j, none⟩) hbb).trans x0
      replace x1 := (HZ.out.1.cell (p := ⟨b, off + (j + 1), none⟩) hbb).trans x1
      replace x2 := (HZ.out.1.cell (p := ⟨b, off + (j + 2), none⟩) hbb).trans x2
      have hbw : b < wr.heap.size := Nat.lt_of_lt_of_le hbb HZ.out.1.size
      obtain ⟨m, hm⟩ : ∃ z, p / 5 % 5 = z := ⟨_, rfl⟩
      have HMm := Lib.hid hm
      have q1 : IntKind.u8.wrap (p / 5) = p / 5 := by simp [IntKind.wrap, IntKind.bits, IntKind.signed]; omega
      have hp5 : 0 ≤ p / 5 := by omega
      have hm5 : m = 0 ∨ m = 1 ∨ m = 2 ∨ m = 3 ∨ m = 4 := by omega
      have e4 : wrap64 (q - 100) = q - 100 := IntWalk.wrap64_in _ (by omega)
      have e5 : wrap64 (1 + r % 14) = 1 + r % 14 := IntWalk.wrap64_in _ (by omega)
      have hyl := HZ.out.2
      go_wp2
      go_quiet (fail)
      have HZ2 := Lib.hid (show Om w y (Fo.opsTo l k) (wr.drewN nq) from HZ.out.below (below_drewN _ wr nq))
      replace x0 := ((below_drewN wr.heap.size wr nq).cell (p := ⟨b, off + j, none⟩) hbw).trans x0
      replace x1 := ((below_drewN wr.heap.size wr nq).cell (p := ⟨b, off + (j + 1), none⟩) hbw).trans x1
      replace x2 := ((below_drewN wr.heap.size wr nq).cell (p := ⟨b, off + (j + 2), none⟩) hbw).trans x2
      clear HZ hyl hbw hbb
      generalize wr.drewN nq = W1 at HZ2 x0 x1 x2 ⊢
      have HRow := Lib.hid (show World.ownsRow W1 w.heap.size 27 5 y k ((Fo.opsTo l k).flatMap opCells) from by have h := HZ2.out.2; rwa [Fo.opsTo_len] at h)
      rcases hm5 with rfl | rfl | rfl | rfl | rfl
      · have HO := Lib.hid (show Fo.opOf p q r = (⟨1, p % 5, 0, 0, q - 100⟩ : Gr.Op) by unfold Fo.opOf; rw [if_pos HMm.out])
        have HLit := Lib.hid (lit_op W1 (⟨1, p % 5, 0, 0, q - 100⟩ : Gr.Op) _ rfl)
        have HRw := Lib.hid (own_below HRow.out (bla (Below.refl _ _) (.cells #[.int .i64 (1), .int .i64 (p % 5), .int .i64 (0), .int .i64 (0), .int .i64 (q - 100)] 27)))
        have hbk : Below W1.heap.size W1 (W1.alloc (.cells #[.int .i64 (1), .int .i64 (p % 5), .int .i64 (0), .int .i64 (0), .int .i64 (q - 100)] 27)) := bla (Below.refl _ _) _
        have hsz := HZ2.out.1.size
        go_wp2_with (at_builtin; refine wpList_append_row rfl _ _ 25 rfl w.heap.size 27 iTO _ 5 40 Try.underlying25 HTO.out.1 HTO.out.2.1 HTO.out.2.2.1 HTO.out.2.2.2 rfl (by decide) _ _ _ rfl (HRw.out) _ _ _ rfl (HLit.out) ?qc3 ?qc4 ?qc5 ?qc6 ?_)
        case qc3 => exact one_op1
        case qc4 => unfold maxLen; omega
        case qc5 => omega
        case qc6 => omega
        intro v2 w3 hown hg hv2
        have HN3 := Lib.hid (show Om w v2 (Fo.opsTo l (k + 1)) w3 from by
          rw [HS.out, HO.out]
          exact (HZ2.out.below hbk).app (by rw [Fo.opsTo_len]; exact hown) hg)
        clear hown hg hv2 hbk HLit HRw HZ2 HRow
        go_wp2
        go_roundw
        case rel => exact ⟨k + 1, _, by omega, by first | rfl | go_num, rfl, HN3⟩
        case measure => simp [intOf]; omega
      · have HO := Lib.hid (show Fo.opOf p q r = (⟨2, p % 5, q % 5, 0, 0⟩ : Gr.Op) by unfold Fo.opOf; rw [if_neg (by rw [HMm.out]; decide), if_pos HMm.out])
        have HLit := Lib.hid (lit_op W1 (⟨2, p % 5, q % 5, 0, 0⟩ : Gr.Op) _ rfl)
        have HRw := Lib.hid (own_below HRow.out (bla (Below.refl _ _) (.cells #[.int .i64 (2), .int .i64 (p % 5), .int .i64 (q % 5), .int .i64 (0), .int .i64 (0)] 27)))
        have hbk : Below W1.heap.size W1 (W1.alloc (.cells #[.int .i64 (2), .int .i64 (p % 5), .int .i64 (q % 5), .int .i64 (0), .int .i64 (0)] 27)) := bla (Below.refl _ _) _
        have hsz := HZ2.out.1.size
        go_wp2_with (at_builtin; refine wpList_append_row rfl _ _ 25 rfl w.heap.size 27 iTO _ 5 40 Try.underlying25 HTO.out.1 HTO.out.2.1 HTO.out.2.2.1 HTO.out.2.2.2 rfl (by decide) _ _ _ rfl (HRw.out) _ _ _ rfl (HLit.out) ?qc3 ?qc4 ?qc5 ?qc6 ?_)
        case qc3 => exact one_op1
        case qc4 => unfold maxLen; omega
        case qc5 => omega
        case qc6 => omega
        intro v2 w3 hown hg hv2
        have HN3 := Lib.hid (show Om w v2 (Fo.opsTo l (k + 1)) w3 from by
          rw [HS.out, HO.out]
          exact (HZ2.out.below hbk).app (by rw [Fo.opsTo_len]; exact hown) hg)
        clear hown hg hv2 hbk HLit HRw HZ2 HRow
        go_wp2
        go_roundw
        case rel => exact ⟨k + 1, _, by omega, by first | rfl | go_num, rfl, HN3⟩
        case measure => simp [intOf]; omega
      · have HO := Lib.hid (show Fo.opOf p q r = (⟨4, p % 5, q % 5, 0, 0⟩ : Gr.Op) by unfold Fo.opOf; rw [if_neg (by rw [HMm.out]; decide), if_neg (by rw [HMm.out]; decide), if_pos HMm.out])
        have HLit := Lib.hid (lit_op W1 (⟨4, p % 5, q % 5, 0, 0⟩ : Gr.Op) _ rfl)
        have HRw := Lib.hid (own_below HRow.out (bla (Below.refl _ _) (.cells #[.int .i64 (4), .int .i64 (p % 5), .int .i64 (q % 5), .int .i64 (0), .int .i64 (0)] 27)))
        have hbk : Below W1.heap.size W1 (W1.alloc (.cells #[.int .i64 (4), .int .i64 (p % 5), .int .i64 (q % 5), .int .i64 (0), .int .i64 (0)] 27)) := bla (Below.refl _ _) _
        have hsz := HZ2.out.1.size
        go_wp2_with (at_builtin; refine wpList_append_row rfl _ _ 25 rfl w.heap.size 27 iTO _ 5 40 Try.underlying25 HTO.out.1 HTO.out.2.1 HTO.out.2.2.1 HTO.out.2.2.2 rfl (by decide) _ _ _ rfl (HRw.out) _ _ _ rfl (HLit.out) ?qc3 ?qc4 ?qc5 ?qc6 ?_)
        case qc3 => exact one_op1
        case qc4 => unfold maxLen; omega
        case qc5 => omega
        case qc6 => omega
        intro v2 w3 hown hg hv2
        have HN3 := Lib.hid (show Om w v2 (Fo.opsTo l (k + 1)) w3 from by
          rw [HS.out, HO.out]
          exact (HZ2.out.below hbk).app (by rw [Fo.opsTo_len]; exact hown) hg)
        clear hown hg hv2 hbk HLit HRw HZ2 HRow
        go_wp2
        go_roundw
        case rel => exact ⟨k + 1, _, by omega, by first | rfl | go_num, rfl, HN3⟩
        case measure => simp [intOf]; omega
      · have HO := Lib.hid (show Fo.opOf p q r = (⟨5, 0, p % 5, q % 5, 0⟩ : Gr.Op) by unfold Fo.opOf; rw [if_neg (by rw [HMm.out]; decide), if_neg (by rw [HMm.out]; decide), if_neg (by rw [HMm.out]; decide), if_pos HMm.out])
        have HLit := Lib.hid (lit_op W1 (⟨5, 0, p % 5, q % 5, 0⟩ : Gr.Op) _ rfl)
        have HRw := Lib.hid (own_below HRow.out (bla (Below.refl _ _) (.cells #[.int .i64 (5), .int .i64 (0), .int .i64 (p % 5), .int .i64 (q % 5), .int .i64 (0)] 27)))
        have hbk : Below W1.heap.size W1 (W1.alloc (.cells #[.int .i64 (5), .int .i64 (0), .int .i64 (p % 5), .int .i64 (q % 5), .int .i64 (0)] 27)) := bla (Below.refl _ _) _
        have hsz := HZ2.out.1.size
        go_wp2_with (at_builtin; refine wpList_append_row rfl _ _ 25 rfl w.heap.size 27 iTO _ 5 40 Try.underlying25 HTO.out.1 HTO.out.2.1 HTO.out.2.2.1 HTO.out.2.2.2 rfl (by decide) _ _ _ rfl (HRw.out) _ _ _ rfl (HLit.out) ?qc3 ?qc4 ?qc5 ?qc6 ?_)
        case qc3 => exact one_op1
        case qc4 => unfold maxLen; omega
        case qc5 => omega
        case qc6 => omega
        intro v2 w3 hown hg hv2
        have HN3 := Lib.hid (show Om w v2 (Fo.opsTo l (k + 1)) w3 from by
          rw [HS.out, HO.out]
          exact (HZ2.out.below hbk).app (by rw [Fo.opsTo_len]; exact hown) hg)
        clear hown hg hv2 hbk HLit HRw HZ2 HRow
        go_wp2
        go_roundw
        case rel => exact ⟨k + 1, _, by omega, by first | rfl | go_num, rfl, HN3⟩
        case measure => simp [intOf]; omega
      · have HO := Lib.hid (show Fo.opOf p q r = (⟨3, p % 5, q % 5, r % 5, 1 + r % 14⟩ : Gr.Op) by unfold Fo.opOf; rw [if_neg (by rw [HMm.out]; decide), if_neg (by rw [HMm.out]; decide), if_neg (by rw [HMm.out]; decide), if_neg (by rw [HMm.out]; decide)])
        have HLit := Lib.hid (lit_op W1 (⟨3, p % 5, q % 5, r % 5, 1 + r % 14⟩ : Gr.Op) _ rfl)
        have HRw := Lib.hid (own_below HRow.out (bla (Below.refl _ _) (.cells #[.int .i64 (3), .int .i64 (p % 5), .int .i64 (q % 5), .int .i64 (r % 5), .int .i64 (1 + r % 14)] 27)))
        have hbk : Below W1.heap.size W1 (W1.alloc (.cells #[.int .i64 (3), .int .i64 (p % 5), .int .i64 (q % 5), .int .i64 (r % 5), .int .i64 (1 + r % 14)] 27)) := bla (Below.refl _ _) _
        have hsz := HZ2.out.1.size
        go_wp2_with (at_builtin; refine wpList_append_row rfl _ _ 25 rfl w.heap.size 27 iTO _ 5 40 Try.underlying25 HTO.out.1 HTO.out.2.1 HTO.out.2.2.1 HTO.out.2.2.2 rfl (by decide) _ _ _ rfl (HRw.out) _ _ _ rfl (HLit.out) ?qc3 ?qc4 ?qc5 ?qc6 ?_)
        case qc3 => exact one_op1
        case qc4 => unfold maxLen; omega
        case qc5 => omega
        case qc6 => omega
        intro v2 w3 hown hg hv2
        have HN3 := Lib.hid (show Om w v2 (Fo.opsTo l (k + 1)) w3 from by
          rw [HS.out, HO.out]
          exact (HZ2.out.below hbk).app (by rw [Fo.opsTo_len]; exact hown) hg)
        clear hown hg hv2 hbk HLit HRw HZ2 HRow
        go_wp2
        go_roundw
        case rel => exact ⟨k + 1, _, by omega, by first | rfl | go_num, rfl, HN3⟩
        case measure => simp [intOf]; omega
    · have hnot : ¬ (((j + 2 : Nat) : Int) < (n : Int)) ∨ ¬ ((j : Int) < 90) := by have := HN.out; unfold Fo.opsN at hlt; omega
      have hke : k = Fo.opsN l := by omega
      subst hke
      rcases hnot with h | h
      · go_wp2
        go_ret
        exact ⟨_, rfl, HZ.out⟩
      · by_cases h2 : ((j + 2 : Nat) : Int) < (n : Int)
        · go_wp2
          go_ret
          exact ⟨_, rfl, HZ.out⟩
        · go_wp2
          go_ret
          exact ⟨_, rfl, HZ.out⟩
end Go.Proofs.Ytojnhdkclabkgaa
