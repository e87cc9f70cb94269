/- The law's own helpers of layer 2: awake, Mod. -/
import Derived.Test.YtbppfhlpielpcaaDoorTkWordB
import Derived.Test.YtbppfhlpielpcaaDoorLawKit
namespace Go.Proofs.YtbppfhlpielpcaaDoor
open Go.RowKit Go.Maps Go.WideMaps Go.WideElems Tk
set_option linter.unusedVariables false
set_option maxRecDepth 100000
/-! ### awake -/
def exT : List Tok := [⟨1, 0, 1, [105]⟩, ⟨3, 0, 1, [60, 61]⟩, ⟨2, 10, 1, []⟩]
theorem ex_scan : go [105, 60, 61, 49, 48] 1 = .ok exT := by rfl
theorem ex_name : nameB [97, 49] = true := by decide
theorem ex_word : wordL ⟨2, 10, 1, []⟩ = [49, 48] := by
  rw [word_num rfl (by decide) (by decide)]
  exact Lib.decDigits_two (by decide) (by decide)
set_option maxHeartbeats 1000000 in
theorem awake_any (w : World) (ht : Tab w) : Calls Tryd.prog 5 #[] w fun e w' => e = .returned (.bool true) ∧ Below w.heap.size w w' := by
  have hs := Lib.hid (scan_any ⟨#[105, 60, 61, 49, 48]⟩ (by decide) w)
  have ho := out_ok (l := bs ⟨#[105, 60, 61, 49, 48]⟩) (by decide) ex_scan
  have hn := name_any ⟨#[97, 49]⟩ (by decide)
  rw [show nameB (bs ⟨#[97, 49]⟩) = true from ex_name] at hn
  have HO := Lib.hid ho
  have HN := Lib.hid hn
  have HT := Lib.hid ht
  clear ho hn ht
  go_enter Tryd.func5, Tryd.ntmps5
  go_wp2_with fail
  refine hs.out.mono ?_
  rintro e w1 ⟨⟨v, he, hown⟩, hb⟩
  obtain ⟨o1, o2, o3⟩ := HO.out
  rw [o2, o3] at he
  rw [o1] at hown
  subst he
  obtain ⟨g, cap, rfl⟩ := own_slice hown (by decide)
  have hc0 := trow_cell hown 0 ⟨1, 0, 1, [105]⟩ rfl
  have hc1 := trow_cell hown 1 ⟨3, 0, 1, [60, 61]⟩ rfl
  have hc2 := trow_cell hown 2 ⟨2, 10, 1, []⟩ rfl
  have a0 : w1.cell? ⟨g, 3, none⟩ = some (.string ⟨#[105]⟩) := hc0.2.2.2
  have a1 : w1.cell? ⟨g, 7, none⟩ = some (.string ⟨#[60, 61]⟩) := hc1.2.2.2
  have b0 : w1.cell? ⟨g, 8, none⟩ = some (.int .i64 2) := hc2.1
  have b1 : w1.cell? ⟨g, 9, none⟩ = some (.int .i64 10) := hc2.2.1
  have b2 : w1.cell? ⟨g, 10, none⟩ = some (.int .i64 1) := hc2.2.2.1
  have b3 : w1.cell? ⟨g, 11, none⟩ = some (.string ⟨#[]⟩) := hc2.2.2.2
  have HB := Lib.hid hb
  clear hb hown hc0 hc1 hc2 o1 o2 o3
  go_wp2_with fail
  refine (HN.out _).mono ?_
  rintro e w2 ⟨rfl, rfl⟩
  go_wp2_with fail
  refine (word_any ⟨2, 10, 1, []⟩ _ (tab_below HT.out HB.out)).mono ?_
  rintro e w2 ⟨rfl, hb2⟩
  rw [ex_word]
  have HB2 := Lib.hid hb2
  clear hb2 a0 a1 b0 b1 b2 b3
  unfold mk
  go_wp2
  go_ret
  exact ⟨rfl, HB.out.trans (HB2.out.mono HB.out.size)⟩
theorem mod_any (a n : Int) (ha : -9223372036854775808 ≤ a ∧ a ≤ 9223372036854775807) (hn : 1 ≤ n ∧ n ≤ 1000000) (w : World) :
    Calls Tryd.prog 9 #[.int .i64 a, .int .i64 n] w fun e w' => e = .returned (.int .i64 (a % n)) ∧ w = w' := by
  obtain ⟨ha1, ha2⟩ := ha
  obtain ⟨hn1, hn2⟩ := hn
  have h1 : a.tmod n = if 0 ≤ a then a % n else -((-a) % n) := by
    by_cases h : 0 ≤ a
    · rw [if_pos h, Int.tmod_eq_emod_of_nonneg h]
    · rw [if_neg h]
      have : a.tmod n = -((-a).tmod n) := by rw [Int.neg_tmod, Int.neg_neg]
      rw [this, Int.tmod_eq_emod_of_nonneg (by omega)]
  have hlo : -n < a.tmod n := by
    rw [h1]; have := Int.emod_lt_of_pos a (show 0 < n by omega); have := Int.emod_lt_of_pos (-a) (show 0 < n by omega); have := Int.emod_nonneg a (show n ≠ 0 by omega); split <;> omega
  have hhi : a.tmod n < n := by
    rw [h1]; have := Int.emod_lt_of_pos a (show 0 < n by omega); have := Int.emod_nonneg (-a) (show n ≠ 0 by omega); split <;> omega
  have hd : ∃ q, a = n * q + a.tmod n := ⟨a.tdiv n, (Int.mul_tdiv_add_tmod a n).symm⟩
  have hfin : (a.tmod n + n) % n = a % n := by
    obtain ⟨q, hq⟩ := hd
    conv => rhs; rw [hq]
    rw [Int.add_emod_right, Int.add_comm (n * q), Int.add_mul_emod_self_left]
  have HF := Lib.hid hfin
  have hp : 0 ≤ a.tmod n + n := by omega
  clear h1 hd hfin
  go_enter Tryd.func9, Tryd.ntmps9
  go_wp2
  go_ret
  exact ⟨ret_int HF.out, rfl⟩
end Go.Proofs.YtbppfhlpielpcaaDoor
