/- The laws' own helpers of layer 2: pieces, awake, Mod. -/
import Derived.Test.YtnhaenohmfhecaaDoorTkWord
import Derived.Test.YtnhaenohmfhecaaDoorLawKit
namespace Go.Proofs.YtnhaenohmfhecaaDoor
open Go.RowKit Go.Maps Go.WideMaps Go.WideElems Tk
set_option linter.unusedVariables false

def pieceList : List (List UInt8) := [[97], [116, 97, 115, 107], [120, 57], [49, 50], [48], [48, 48, 55], [50, 49, 52, 55, 52, 56, 51, 54, 52, 55], [50, 49, 52, 55, 52, 56, 51, 54, 52, 56], [60], [60, 60], [61], [61, 61], [33], [33, 61], [62], [62, 62], [43], [45], [42], [47], [37], [38], [124], [94], [40], [41], [91], [93], [123], [125], [32], [32, 32], [9], [10], [65], [95], [97, 98, 99, 100, 101, 102, 103, 104, 105, 106, 107, 108], [109], [13], [195, 169]]
def pieceAt (z : Int) : List UInt8 := pieceList.getD (z.toNat % 40) []
def piecesL (zs : List Int) : List UInt8 := (zs.take 60).flatMap pieceAt
def pieceVals : Array Value := (pieceList.map fun l => Value.string (mk l)).toArray
theorem pieceVals_at (i : Nat) (h : i < 40) : pieceVals[i]? = some (.string (mk (pieceList.getD i []))) := by
  unfold pieceVals
  have hi : i < pieceList.length := h
  rw [List.getElem?_toArray, List.getElem?_map, List.getElem?_eq_getElem hi]
  simp [List.getD, hi]
theorem piece_len (z : Int) : (pieceAt z).length ≤ 12 := by
  unfold pieceAt
  have h : z.toNat % 40 < 40 := by omega
  have hi : z.toNat % 40 < pieceList.length := h
  rw [List.getD_eq_getElem?_getD, List.getElem?_eq_getElem hi]
  exact (show ∀ x ∈ pieceList, x.length ≤ 12 by decide) _ (List.getElem_mem hi)
theorem pieces_len (l : List Int) : (l.flatMap pieceAt).length ≤ 12 * l.length := by
  induction l with
  | nil => simp
  | cons a r ih => have := piece_len a; simp only [List.flatMap_cons, List.length_append, List.length_cons]; omega
theorem piecesL_len (zs : List Int) : (piecesL zs).length ≤ 720 := by
  have := pieces_len (zs.take 60)
  unfold piecesL
  have h : (zs.take 60).length ≤ 60 := List.length_take_le _ _
  omega
theorem piecesL_step (zs : List Int) (k : Nat) (h : k < zs.length) : (zs.take (k + 1)).flatMap pieceAt = (zs.take k).flatMap pieceAt ++ pieceAt (zs.getD k 0) := by
  rw [List.take_succ_eq_append_getElem h, List.flatMap_append]
  simp [List.getD, h]
theorem add_mk (a b : List UInt8) (h : a.length + b.length ≤ 9223372036854775807) (w : World) : (Op.stringOp .add (mk a) (mk b)).run Tryd.prog w = .ok (.string (mk (a ++ b))) w := add_arr a b h w
set_option maxRecDepth 100000 in
set_option maxHeartbeats 1000000 in
theorem pieces_any (v : Value) (zs : List Int) (w : World) (hv : IntsIn .u8 w v zs) (hz : ∀ z ∈ zs, 0 ≤ z ∧ z ≤ 255) (hmax : zs.length ≤ maxLen) :
    Calls Tryd.prog 15 #[v] w fun e w' => e = .returned (.string (mk (piecesL zs))) ∧ Below w.heap.size w w' := by
  unfold maxLen at hmax
  have hw0 : ∀ i, i < 40 → (w.alloc (.cells pieceVals 9)).cell? ⟨w.heap.size, i, none⟩ = some (.string (mk (pieceList.getD i []))) := fun i h => by
    rw [cell_of_row _ _ i pieceVals 9 (0, 0) (heap_alloc_new w _)]
    exact pieceVals_at i h
  have HW0 := Lib.hid hw0
  clear hw0
  rcases hv with ⟨rfl, A, c, rfl⟩ | ⟨b, off, c, h0, rfl, hb, hc⟩
  · clear hz HW0 hmax
    go_enter Tryd.func15, Tryd.ntmps15
    go_wp2
    go_loop [4, 5] (fun s i => s = .string ⟨#[]⟩ ∧ i = .int .i64 0) (fun _ _ => 0)
    case atStart => exact ⟨rfl, rfl⟩
    case round =>
      obtain ⟨rfl, rfl⟩ := hrel
      go_wp2
      go_ret
      exact ⟨rfl, (Below.refl _ w).alloc (Nat.le_refl _) _⟩
  · obtain ⟨n, hn⟩ : ∃ n, zs.length = n := ⟨_, rfl⟩
    rw [hn] at h0 hmax
    rw [hn]
    have HN := Lib.hid hn
    have HC := Lib.hid hc
    have HZ := Lib.hid hz
    clear hn hc hz
    go_enter Tryd.func15, Tryd.ntmps15
    go_wp2
    go_loopw [4, 5] (fun s i wr => ∃ k : Nat, k ≤ n ∧ k ≤ 60 ∧ i = .int .i64 k ∧ s = .string (mk ((zs.take k).flatMap pieceAt)) ∧
        Hid ((∀ i, i < 40 → wr.cell? ⟨w.heap.size, i, none⟩ = some (.string (mk (pieceList.getD i [])))) ∧ Below w.heap.size w wr)) (fun _ i _ => n - (intOf i).toNat)
    case atStart => exact ⟨0, by omega, by omega, rfl, rfl, Lib.hid ⟨HW0.out, (Below.refl _ w).alloc (Nat.le_refl _) _⟩⟩
    case round =>
      obtain ⟨k, hk, hk60, rfl, rfl, hR⟩ := hrel
      by_cases hlt : k < n
      · by_cases hlt60 : k < 60
        · have hkz : k < zs.length := by rw [HN.out]; exact hlt
          have hmem : zs.getD k 0 ∈ zs := by simp [List.getD, hkz]
          have hzb := HZ.out _ hmem
          obtain ⟨m, hm⟩ : ∃ m : Nat, zs.getD k 0 = (m : Int) := ⟨(zs.getD k 0).toNat, by omega⟩
          have hm255 : m ≤ 255 := by omega
          have hc := (hR.out.2.cell (p := ⟨b, off + k, none⟩) hb).trans (HC.out k hkz)
          rw [hm] at hc
          have hq := hR.out.1 (m % 40) (by omega)
          have hadd := add_mk ((zs.take k).flatMap pieceAt) (pieceList.getD (m % 40) []) (by
            have h1 := pieces_len (zs.take k)
            have h2 : (zs.take k).length ≤ k := List.length_take_le _ _
            have h3 := piece_len (m : Int)
            unfold pieceAt at h3
            simp only [Int.toNat_natCast] at h3
            omega)
          have hstep : (zs.take (k + 1)).flatMap pieceAt = (zs.take k).flatMap pieceAt ++ pieceList.getD (m % 40) [] := by
            rw [piecesL_step zs k hkz, hm]
            unfold pieceAt
            rw [Int.toNat_natCast]
          rw [← hstep] at hadd
          generalize pieceList.getD (m % 40) [] = pp at hq hadd
          clear hstep hm hzb hmem
          go_wp2
          go_roundw
          case rel => exact ⟨k + 1, by omega, by omega, by go_num, rfl, hR⟩
          case measure => simp [intOf]; omega
        · have he : piecesL zs = (zs.take k).flatMap pieceAt := by unfold piecesL; rw [show k = 60 by omega]
          have HE := Lib.hid he
          clear he
          go_wp2
          go_ret
          exact ⟨ret_str (by rw [HE.out]), hR.out.2⟩
      · have he : piecesL zs = (zs.take k).flatMap pieceAt := by
          unfold piecesL
          rw [List.take_of_length_le (show zs.length ≤ 60 by rw [HN.out]; omega), List.take_of_length_le (show zs.length ≤ k by rw [HN.out]; omega)]
        have HE := Lib.hid he
        clear he
        go_wp2
        go_ret
        exact ⟨ret_str (by rw [HE.out]), hR.out.2⟩

/-! ### awake -/
def exT : List Tok := [⟨1, 0, 1, [105]⟩, ⟨3, 0, 1, [60, 61]⟩, ⟨2, 10, 1, []⟩]
theorem ex_scan : go [105, 60, 61, 49, 48] 1 = .ok exT := by rfl
theorem ex_name : nameB [97, 49] = true := by decide
theorem ex_word : wordL ⟨2, 10, 1, []⟩ = [49, 48] := by
  rw [word_num rfl (by decide) (by decide)]
  exact Lib.decDigits_two (by decide) (by decide)
set_option maxHeartbeats 1000000 in
theorem awake_any (w : World) (ht : Tab w) : Calls Tryd.prog 7 #[] w fun e w' => e = .returned (.bool true) ∧ Below w.heap.size w w' := by
  have hs := Lib.hid (scan_any ⟨#[105, 60, 61, 49, 48]⟩ (by decide) w)
  have ho := out_ok (l := bs ⟨#[105, 60, 61, 49, 48]⟩) (by decide) ex_scan
  have hn := name_any ⟨#[97, 49]⟩ (by decide)
  rw [show nameB (bs ⟨#[97, 49]⟩) = true from ex_name] at hn
  have HO := Lib.hid ho
  have HN := Lib.hid hn
  have HT := Lib.hid ht
  clear ho hn ht
  go_enter Tryd.func7, Tryd.ntmps7
  go_wp2_with fail
  refine hs.out.mono ?_
  rintro e w1 ⟨⟨v, he, hown⟩, hb⟩
  obtain ⟨o1, o2, o3⟩ := HO.out
  rw [o2, o3] at he
  rw [o1] at hown
  subst he
  obtain ⟨g, cap, rfl⟩ := own_slice hown (by decide)
  have hc0 := row_cell hown 0 ⟨1, 0, 1, [105]⟩ rfl
  have hc1 := row_cell hown 1 ⟨3, 0, 1, [60, 61]⟩ rfl
  have hc2 := row_cell hown 2 ⟨2, 10, 1, []⟩ rfl
  have a0 : w1.cell? ⟨g, 3, none⟩ = some (.string ⟨#[105]⟩) := hc0.2.2.2
  have a1 : w1.cell? ⟨g, 7, none⟩ = some (.string ⟨#[60, 61]⟩) := hc1.2.2.2
  have b0 : w1.cell? ⟨g, 8, none⟩ = some (.int .i64 2) := hc2.1
  have b1 : w1.cell? ⟨g, 9, none⟩ = some (.int .i64 10) := hc2.2.1
  have b2 : w1.cell? ⟨g, 10, none⟩ = some (.int .i64 1) := hc2.2.2.1
  have b3 : w1.cell? ⟨g, 11, none⟩ = some (.string ⟨#[]⟩) := hc2.2.2.2
  have HB := Lib.hid hb
  clear hb hown hc0 hc1 hc2 o1 o2 o3
  go_wp2_with fail
  refine (HN.out _).mono ?_
  rintro e w2 ⟨rfl, rfl⟩
  go_wp2_with fail
  refine (word_any ⟨2, 10, 1, []⟩ _ (tab_below HT.out HB.out)).mono ?_
  rintro e w2 ⟨rfl, hb2⟩
  rw [ex_word]
  have HB2 := Lib.hid hb2
  clear hb2 a0 a1 b0 b1 b2 b3
  unfold mk
  go_wp2
  go_ret
  exact ⟨rfl, HB.out.trans (HB2.out.mono HB.out.size)⟩
theorem mod_any (a n : Int) (ha : -9223372036854775808 ≤ a ∧ a ≤ 9223372036854775807) (hn : 1 ≤ n ∧ n ≤ 1000000) (w : World) :
    Calls Tryd.prog 16 #[.int .i64 a, .int .i64 n] w fun e w' => e = .returned (.int .i64 (a % n)) ∧ w = w' := by
  obtain ⟨ha1, ha2⟩ := ha
  obtain ⟨hn1, hn2⟩ := hn
  have h1 : a.tmod n = if 0 ≤ a then a % n else -((-a) % n) := by
    by_cases h : 0 ≤ a
    · rw [if_pos h, Int.tmod_eq_emod_of_nonneg h]
    · rw [if_neg h]
      have : a.tmod n = -((-a).tmod n) := by rw [Int.neg_tmod, Int.neg_neg]
      rw [this, Int.tmod_eq_emod_of_nonneg (by omega)]
  have hlo : -n < a.tmod n := by
    rw [h1]; have := Int.emod_lt_of_pos a (show 0 < n by omega); have := Int.emod_lt_of_pos (-a) (show 0 < n by omega); have := Int.emod_nonneg a (show n ≠ 0 by omega); split <;> omega
  have hhi : a.tmod n < n := by
    rw [h1]; have := Int.emod_lt_of_pos a (show 0 < n by omega); have := Int.emod_nonneg (-a) (show n ≠ 0 by omega); split <;> omega
  have hd : ∃ q, a = n * q + a.tmod n := ⟨a.tdiv n, (Int.mul_tdiv_add_tmod a n).symm⟩
  have hfin : (a.tmod n + n) % n = a % n := by
    obtain ⟨q, hq⟩ := hd
    conv => rhs; rw [hq]
    rw [Int.add_emod_right, Int.add_comm (n * q), Int.add_mul_emod_self_left]
  have HF := Lib.hid hfin
  have hp : 0 ≤ a.tmod n + n := by omega
  clear h1 hd hfin
  go_enter Tryd.func16, Tryd.ntmps16
  go_wp2
  go_ret
  exact ⟨ret_int HF.out, rfl⟩
end Go.Proofs.YtnhaenohmfhecaaDoor
