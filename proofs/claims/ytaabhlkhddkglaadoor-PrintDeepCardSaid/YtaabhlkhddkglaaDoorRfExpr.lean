/- The specification's Expr of layer 4, of an expression that has its shape. No condition. -/
import Derived.Test.YtaabhlkhddkglaaDoorRfNm
import Derived.Test.YtaabhlkhddkglaaDoorRfDp
namespace Go.Proofs.YtaabhlkhddkglaaDoor
open Go.RowKit Tk
set_option linter.unusedVariables false
set_option linter.unusedSimpArgs false
attribute [local go_sem] y_undef
set_option maxRecDepth 100000 in
set_option maxHeartbeats 2000000 in
theorem rexpr_any (a : Exs) (A : Option Addr) (c : Nat) (k n o : Int) (s : ByteArray) (S : Nat → Prop) (w : World) (hsh : shB k n s o a.len = true ∧ a.sh) (hat : a.At w S A) (hwf : (Exs.cons k n s o a .nil).Wf) :
    Calls Tryd.prog 8 #[.agg (exV k n o s A a.len c)] w fun e w' => e = .returned (.tuple #[.string (if a.height ≤ 7 then eTx k n s o a.txs else ⟨#[]⟩), .int .i64 (if a.height ≤ 7 then 0 else 4)]) ∧ Below w.heap.size w w' := by
  have HB := Lib.hid ((Below.refl w.heap.size w).alloc (Nat.le_refl _) (.cells (exV k n o s A a.len c) 26))
  have HX := Lib.hid (Blk.new w 26 (exV k n o s A a.len c))
  have HAT := Lib.hid (fun (W : World) (hb : Below w.heap.size w W) => hat.keep hb.size (S' := S) fun q hq hl => ⟨hq, fun f => hb.cell (p := ⟨q, f, none⟩) hl⟩)
  have HD := Lib.hid (rdepth1_any a A c k n o s S _ hwf.2.2.2.2.2.1 hwf.2.2.2.2.1 (HAT.out _ HB.out))
  have H8 := exD_eight a
  have HSH := Lib.hid hsh
  clear hwf hsh hat
  obtain ⟨l, hl⟩ : ∃ l, a.len = l := ⟨_, rfl⟩
  by_cases h7 : a.height ≤ 7
  · rw [if_pos h7, if_pos h7]
    have h8 : ¬ 8 < exD a 1 := fun h => by have := H8.1 h; omega
    have HS := Lib.hid (fun (W : World) (hb : Below w.heap.size w W) => rshaped_any a.height a A c k n o 1 s S W rfl HSH.out.1 HSH.out.2 (HAT.out W hb) (by omega) (by omega))
    have HE := Lib.hid (fun (W : World) (hb : Below w.heap.size w W) => rtxt_any a.height a A c k n o s S W rfl HSH.out.1 HSH.out.2 (HAT.out W hb) h7)
    rw [hl] at HE HX HS HD HB ⊢
    clear h7 hl H8
    generalize eTx k n s o a.txs = r at *
    generalize exD a 1 = d at *
    go_enter Tryd.func8, Tryd.ntmps8
    go_wp2_with (first
      | (go_at_call 13; refine HD.out.mono ?_; rintro e w1 ⟨rfl, hb1⟩; have HB1 := Lib.hid (HB.out.trans (hb1.mono HB.out.size)); have HX1 := Lib.hid (HX.out.below hb1 HX.out.lt); have x0 := HX1.out.cell 0; have x1 := HX1.out.cell 1; have x2 := HX1.out.cell 2; have x3 := HX1.out.cell 3; have x4 := HX1.out.cell 4; clear hb1)
      | (go_at_call 14; refine (HS.out _ HB1.out).mono ?_; rintro e w2 ⟨rfl, hb2⟩; have HB2 := Lib.hid (HB1.out.trans (hb2.mono HB1.out.size)); have HX2 := Lib.hid (HX1.out.below hb2 HX1.out.lt); have y0 := HX2.out.cell 0; have y1 := HX2.out.cell 1; have y2 := HX2.out.cell 2; have y3 := HX2.out.cell 3; have y4 := HX2.out.cell 4; clear hb2 x0 x1 x2 x3 x4)
      | (go_at_call 15; refine (HE.out _ HB2.out).mono ?_; rintro e w3 ⟨rfl, hb3⟩; have HB3 := Lib.hid (HB2.out.trans (hb3.mono HB2.out.size)); clear hb3))
    refine bodyPost_ret (v := .tuple #[.string r, .int .i64 0]) ?_ rfl ⟨rfl, HB3.out⟩
    simp [results, Tryd.results8, go_sem]
  · rw [if_neg h7, if_neg h7]
    have h8 : 8 < exD a 1 := H8.2 (by omega)
    rw [hl] at HX HD HB ⊢
    clear h7 hl H8
    generalize exD a 1 = d at *
    go_enter Tryd.func8, Tryd.ntmps8
    go_wp2_with (go_at_call 13; refine HD.out.mono ?_; rintro e w1 ⟨rfl, hb1⟩; have HB1 := Lib.hid (HB.out.trans (hb1.mono HB.out.size)); clear hb1)
    refine bodyPost_ret (v := .tuple #[.string ⟨#[]⟩, .int .i64 4]) ?_ rfl ⟨rfl, HB1.out⟩
    simp [results, Tryd.results8, go_sem]
end Go.Proofs.YtaabhlkhddkglaaDoor
