/- slices.Concat of two rows of terms. No condition. -/
import Derived.Test.YtpinncjnfbebkaaFcAddA
namespace Go.Proofs.Ytpinncjnfbebkaa
open Go.RowKit
set_option linter.unusedVariables false
set_option linter.unusedSimpArgs false
attribute [local go_sem] y_undef
theorem prs_cells {w : World} {A : Option Addr} {n c : Nat} {l : Fa.Tms} (h : PrsIn w (.slice A n c) l) : l.length = n ∧ ∀ ad, A = some ad → ∀ j u, (l.flatMap prCells)[j]? = some u → w.cell? (ad.add j) = some u := by
  obtain ⟨A', c', e, hl, h⟩ := h
  injection e with e1 e2 e3
  subst e1 e2
  refine ⟨rfl, fun ad e j u hj => ?_⟩
  rcases h with h | ⟨b, off, e', hlt, h⟩
  · have e0 : l = [] := List.eq_nil_of_length_eq_zero h
    subst e0
    simp at hj
  · rw [e] at e'
    injection e' with e'
    subst e'
    rw [show (⟨b, off, none⟩ : Addr).add j = ⟨b, off + j, none⟩ from by unfold Addr.add; split <;> simp_all]
    exact h j u hj
theorem one_prs (l : Fa.Tms) : ∀ u ∈ l.flatMap prCells, u.oneCell' = true := by
  intro u hu
  obtain ⟨t, _, ht⟩ := List.mem_flatMap.1 hu
  simp [prCells] at ht
  rcases ht with rfl | rfl <;> rfl
set_option maxHeartbeats 4000000 in
set_option maxRecDepth 100000 in
theorem fconcat_any (l1 l2 : Fa.Tms) (n1 n2 : Nat) (A1 A2 : Option Addr) (c1 c2 B : Nat) (w : World) (h1 : PrsIn w (.slice A1 n1 c1) l1) (h2 : PrsIn w (.slice A2 n2 c2) l2) (hs1 : Snd (.slice A1 n1 c1)) (hs2 : Snd (.slice A2 n2 c2)) (hm1 : n1 ≤ 1024) (hm2 : n2 ≤ 1024)
    (hc1 : w.cell? ⟨B, 0, none⟩ = some (.slice A1 n1 c1)) (hc2 : w.cell? ⟨B, 1, none⟩ = some (.slice A2 n2 c2)) (hB : B < w.heap.size) :
    Calls Try.prog 40 #[.slice (some ⟨B, 0, none⟩) 2 2] w fun e w' => ∃ A c, e = .returned (.slice A (n1 + n2) c) ∧ w'.ownsRow w.heap.size 36 2 (.slice A (n1 + n2) c) (n1 + n2) ((l1 ++ l2).flatMap prCells) ∧ Below w.heap.size w w' := by
  obtain ⟨iT, hi0, hz0, hz1, hz2⟩ := info_parts Try.infoTm
  have HIT := Lib.hid (And.intro hi0 (And.intro hz0 (And.intro hz1 hz2)))
  have hG := fgrow_any (n1 + n2) w (by omega)
  rw [Int.natCast_add] at hG
  have HG := Lib.hid hG
  clear hG
  have HP1 := Lib.hid fun (u : World) (hb : Below w.heap.size w u) => prs_cells (h1.below hb)
  have HP2 := Lib.hid fun (u : World) (hb : Below w.heap.size w u) => prs_cells (h2.below hb)
  have HS1 := Lib.hid hs1
  have HS2 := Lib.hid hs2
  have HCs := Lib.hid (And.intro hc1 hc2)
  have HL1 := Lib.hid (show (l1.flatMap prCells).length = n1 * 2 by rw [flat_length prCells 2 (fun _ => rfl), (prs_cells h1).1])
  have HL2 := Lib.hid (show (l2.flatMap prCells).length = n2 * 2 by rw [flat_length prCells 2 (fun _ => rfl), (prs_cells h2).1])
  clear hi0 hz0 hz1 hz2 h1 h2 hs1 hs2
  have z1 : ¬ ((n1 : Int) < 0) := by omega
  have z2 : ¬ ((n1 : Int) + (n2 : Int) < 0) := by omega
  go_enter Try.func40, Try.ntmps40
  go_wp2
  refine wp_loop_rounds 3 ?_
  rw [rounds_succ]
  go_wp2
  rw [rounds_succ]
  go_wp2
  rw [rounds_succ]
  go_wp2_with fail
  refine HG.out.mono ?_
  rintro e w1 ⟨v1, rfl, hO1, hb1⟩
  have HO1 := Lib.hid hO1
  have HB1 := Lib.hid hb1
  have d1 := (hb1.cell (p := ⟨B, 0, none⟩) hB).trans hc1
  have d2 := (hb1.cell (p := ⟨B, 1, none⟩) hB).trans hc2
  clear hO1 hb1 hc1 hc2 HG
  go_wp2
  refine wp_loop_rounds 3 ?_
  rw [rounds_succ]
  go_wp2_with (at_builtin; refine wpList_append_both rfl (.tmp 31) (.tmp 32) 28 rfl w.heap.size 36 iT _ 2 16 Try.underlying28 HIT.out.1 HIT.out.2.1 HIT.out.2.2.1 HIT.out.2.2.2 rfl (by decide) v1 (0) ([]) rfl HO1.out A1 n1 c1 (l1.flatMap prCells) rfl HL1.out (fun e => HS1.out n1 c1 (by rw [e])) (HP1.out _ HB1.out).2 (one_prs _) (by unfold maxLen; omega) (by omega) (HB1.out).size ?_; intro v3 w3 hO3 hg3 _; have HO3 := Lib.hid hO3; have HB3 := Lib.hid (HB1.out.grown hg3 HB1.out.size (fun k hk => (HO1.out.lt k hk).1)); clear hO3 hg3; have d3 := (HB3.out.cell (p := ⟨B, 1, none⟩) hB).trans HCs.out.2)
  rw [rounds_succ]
  go_wp2_with (at_builtin; refine wpList_append_both rfl (.tmp 31) (.tmp 32) 28 rfl w.heap.size 36 iT _ 2 16 Try.underlying28 HIT.out.1 HIT.out.2.1 HIT.out.2.2.1 HIT.out.2.2.2 rfl (by decide) v3 (0 + n1) ([] ++ l1.flatMap prCells) rfl HO3.out A2 n2 c2 (l2.flatMap prCells) rfl HL2.out (fun e => HS2.out n2 c2 (by rw [e])) (HP2.out _ HB3.out).2 (one_prs _) (by unfold maxLen; omega) (by omega) (HB3.out).size ?_; intro v4 w4 hO4 hg4 _; have HO4 := Lib.hid hO4; have HB4 := Lib.hid (HB3.out.grown hg4 HB3.out.size (fun k hk => (HO3.out.lt k hk).1)); clear hO4 hg4)
  rw [rounds_succ]
  go_wp2
  go_ret
  obtain ⟨A, c, hv, _⟩ := RowIn.own HO4.out
  subst hv
  have hf := HO4.out
  simp only [Nat.zero_add, List.nil_append] at hf
  rw [List.flatMap_append]
  exact ⟨A, c, by simp, hf, HB4.out⟩
end Go.Proofs.Ytpinncjnfbebkaa
