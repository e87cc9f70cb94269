/- The walk of the law TokenPieces: it answers true. -/
import Derived.Test.YtnhaenohmfhecaaDoorTkAid
namespace Go.Proofs.YtnhaenohmfhecaaDoor
open Go.RowKit Go.Maps Go.WideMaps Go.WideElems Tk
set_option linter.unusedVariables false

theorem wf_bytes {zs : List Int} (h : ∀ z ∈ zs, (Lit.int .u8 z).wf = true) : ∀ z ∈ zs, 0 ≤ z ∧ z ≤ 255 := fun z hz => bounds_u8 (h z hz)
theorem toks_max (l : List UInt8) : (toks l).length ≤ 8192 := by
  unfold toks
  split
  · simp
  · split
    · rename_i T h
      have := count _ _ _ _ h
      omega
    · simp
set_option maxHeartbeats 1000000 in
theorem pieces_law (v : Value) (zs : List Int) (w : World) (hv : IntsIn .u8 w v zs) (hz : ∀ z ∈ zs, 0 ≤ z ∧ z ≤ 255) (hmax : zs.length ≤ maxLen) (ht : Tab w) :
    Calls Tryd.prog 4 #[v] w fun e w' => e = .returned (.bool true) ∧ Below w.heap.size w w' := by
  have hlen := piecesL_len zs
  have hs1 : (mk (piecesL zs)).size ≤ maxLen := by rw [mk_size]; unfold maxLen; omega
  have HP := Lib.hid (pieces_any v zs w hv hz hmax)
  have HS := Lib.hid (scan_any (mk (piecesL zs)) hs1)
  have HR := Lib.hid (rscan_any (mk (piecesL zs)) hs1)
  have HT := Lib.hid ht
  clear hs1 ht hv hz
  go_enter Tryd.func4, Tryd.ntmps4
  go_wp2_with fail
  refine HP.out.mono ?_
  rintro e w1 ⟨rfl, hb1⟩
  have HB1 := Lib.hid hb1
  clear hb1
  go_wp2_with fail
  refine (HS.out _).mono ?_
  rintro e w2 ⟨⟨v2, rfl, hown2⟩, hb2⟩
  have HB2 := Lib.hid (HB1.out.trans (hb2.mono HB1.out.size))
  have HO2 := Lib.hid hown2
  clear hb2 hown2
  go_wp2_with fail
  refine (HR.out _).mono ?_
  rintro e w3 ⟨⟨v3, rfl, hown3⟩, hb3⟩
  have HO2' := Lib.hid (own_below HO2.out hb3)
  have HB3 := Lib.hid (HB2.out.trans (hb3.mono HB2.out.size))
  have HO3 := Lib.hid hown3
  clear hb3 hown3
  go_wp2_with fail
  refine (same_any true _ _ v2 v3 _ _ _ HO2'.out HO3.out (alike_refl _ _) (by have := toks_max (bs (mk (piecesL zs))); unfold maxLen; omega)).mono ?_
  rintro e w4 ⟨rfl, n, rfl⟩
  have HB4 := Lib.hid (HB3.out.trans (below_drewN _ _ n))
  go_wp2_with fail
  refine (awake_any _ (tab_below HT.out HB4.out)).mono ?_
  rintro e w5 ⟨rfl, hb5⟩
  have HB5 := Lib.hid (HB4.out.trans (hb5.mono HB4.out.size))
  clear hb5
  go_wp2
  go_ret
  exact ⟨rfl, HB5.out⟩
end Go.Proofs.YtnhaenohmfhecaaDoor
