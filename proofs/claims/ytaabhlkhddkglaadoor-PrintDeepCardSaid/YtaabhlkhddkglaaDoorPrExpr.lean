/- print.Expr of an expression that has its shape. No condition. -/
import Derived.Test.YtaabhlkhddkglaaDoorPrTxt
namespace Go.Proofs.YtaabhlkhddkglaaDoor
open Go.RowKit Tk
set_option linter.unusedVariables false
set_option linter.unusedSimpArgs false
attribute [local go_sem] y_undef
theorem Blk.pk {w : World} {g : Nat} {t : TypeId} {cs : Array Value} (h : Blk w g t cs) : PkBlk w g := ⟨cs, t, h⟩
/-- A list of one list of one expression. -/
theorem lv_one {w W : World} {a : Exs} {A : Option Addr} {k n o : Int} {s : ByteArray} {c b1 b2 : Nat} {t1 t2 : TypeId} (hb : Below w.heap.size w W) (h1 : Blk W b1 t1 (exV k n o s A a.len c)) (h2 : Blk W b2 t2 #[.slice (some ⟨b1, 0, none⟩) 1 1])
    (hat : a.At w (PkBlk w) A) (hc : a.len ≤ c) (hwf : (Exs.cons k n s o a .nil).Wf) : Lv W (.slice (some ⟨b2, 0, none⟩) 1 1) [.cons k n s o a .nil] := by
  refine ⟨some ⟨b2, 0, none⟩, 1, rfl, Nat.le_refl _, fun i t hi => ?_⟩
  have hi0 : i = 0 := by
    rcases Nat.eq_zero_or_pos i with h | h
    · exact h
    · rw [List.getElem?_eq_none (by simp; omega)] at hi; cases hi
  subst hi0
  have ht : t = .cons k n s o a .nil := by simpa using hi.symm
  subst ht
  refine ⟨b2, 0, .slice (some ⟨b1, 0, none⟩) 1 1, rfl, h2.lt, h2.cell 0, some ⟨b1, 0, none⟩, 1, rfl, Nat.le_refl _, ?_, hwf⟩
  exact ⟨b1, 0, rfl, h1.pk, h1.lt, h1.cell 0, h1.cell 1, h1.cell 2, h1.cell 3, ⟨A, c, h1.cell 4, hc, hat.stay hb⟩, trivial⟩
theorem sm_one {e : Exs} (h : e.size ≤ 900000) (hl : e.len ≤ maxLen) : Sm [e] := ⟨by simp [maxLen], by simp [Exs.sizes]; omega, fun t ht => by
  have : t = e := by simpa using ht
  rw [this]; exact hl⟩
set_option maxRecDepth 100000 in
set_option maxHeartbeats 2000000 in
theorem pexpr_any (a : Exs) (A : Option Addr) (c : Nat) (k n o : Int) (s : ByteArray) (w : World) (hsh : shB k n s o a.len = true ∧ a.sh) (hat : a.At w (PkBlk w) A) (hc : a.len ≤ c) (hwf : (Exs.cons k n s o a .nil).Wf) (hsz : a.size ≤ 100000) (htb : Tab w) :
    Calls Tryd.prog 7 #[.agg (exV k n o s A a.len c)] w fun e w' => e = .returned (.tuple #[.string (if a.height ≤ 7 then eTx k n s o a.txs else ⟨#[]⟩), .int .i64 (if a.height ≤ 7 then 0 else 4)]) ∧ Below w.heap.size w w' := by
  have b0 := (Below.refl w.heap.size w).alloc (Nat.le_refl _) (.cells (exV k n o s A a.len c) 26)
  have b1 := b0.alloc b0.size (.cells (exV k n o s A a.len c) 26)
  have b2 := b1.alloc b1.size (.cells #[.slice (some ⟨w.heap.size + 1, 0, none⟩) 1 1] 24)
  have HL := Lib.hid (show Lv (((w.alloc (.cells (exV k n o s A a.len c) 26)).alloc (.cells (exV k n o s A a.len c) 26)).alloc (.cells #[.slice (some ⟨w.heap.size + 1, 0, none⟩) 1 1] 24)) (.slice (some ⟨w.heap.size + 2, 0, none⟩) 1 1) [.cons k n s o a .nil] from
    lv_one (b1 := w.heap.size + 1) (b2 := w.heap.size + 2) b2 (by have := (Blk.new (w.alloc (.cells (exV k n o s A a.len c) 26)) 26 (exV k n o s A a.len c)).alloc (.cells #[.slice (some ⟨w.heap.size + 1, 0, none⟩) 1 1] 24); simpa using this)
      (by have := Blk.new ((w.alloc (.cells (exV k n o s A a.len c) 26)).alloc (.cells (exV k n o s A a.len c) 26)) 24 #[.slice (some ⟨w.heap.size + 1, 0, none⟩) 1 1]; simpa using this) hat hc hwf)
  have HX := Lib.hid (((Blk.new w 26 (exV k n o s A a.len c)).alloc (.cells (exV k n o s A a.len c) 26)).alloc (.cells #[.slice (some ⟨w.heap.size + 1, 0, none⟩) 1 1] 24))
  have HB := Lib.hid b2
  have HS := Lib.hid (sm_one (e := .cons k n s o a .nil) (by simp [Exs.size]; omega) (by simp [Exs.len, maxLen]))
  have HT := Lib.hid (fun (W : World) (hb : Below w.heap.size w W) => tab_below htb hb)
  have HSH := Lib.hid hsh
  have HAT := Lib.hid hat
  clear b0 b1 b2 hc hwf hsz htb hsh hat
  obtain ⟨l, hl⟩ : ∃ l, a.len = l := ⟨_, rfl⟩
  have HLen := Lib.hid hl
  by_cases h7 : a.height ≤ 7
  · rw [if_pos h7, if_pos h7]
    have HD : ¬ Exs.Dp 8 [.cons k n s o a .nil] := by
      rintro ⟨t, ht, h⟩
      have : t = .cons k n s o a .nil := by simpa using ht
      rw [this] at h
      simp only [Exs.height] at h
      omega
    have HDp := Lib.hid HD
    have HAll := Lib.hid (show ∀ t ∈ [Exs.cons k n s o a .nil], t.allTo shB 20 = true from fun t ht => by
      have : t = .cons k n s o a .nil := by simpa using ht
      rw [this]
      exact Exs.allTo_of _ 20 ⟨HSH.out.1, HSH.out.2, trivial⟩)
    have HE := Lib.hid (fun (W : World) (hb : Below w.heap.size w W) => ptxt_any a.height a A c k n o s (PkBlk w) W rfl HSH.out.1 HSH.out.2 (HAT.out.keep hb.size fun q hq hl => ⟨hq, fun f => hb.cell (p := ⟨q, f, none⟩) hl⟩) h7 (HT.out W hb))
    rw [hl] at HE HX HL HB ⊢
    clear h7 HD hl
    generalize eTx k n s o a.txs = r at *
    go_enter Tryd.func7, Tryd.ntmps7
    go_wp2_with (first
      | (go_at_call 10; refine (deep_any _ _ _ HL.out HS.out).mono ?_; rintro e w1 ⟨⟨q, rfl, hq⟩, hb1⟩; obtain rfl : q = false := (by cases q with | false => rfl | true => exact absurd (hq.1 rfl) HDp.out); have HL1 := Lib.hid (HL.out.below hb1); have HB1 := Lib.hid (HB.out.trans (hb1.mono HB.out.size)); have HX1 := Lib.hid (HX.out.below hb1 HX.out.lt); have x0 := HX1.out.cell 0; have x1 := HX1.out.cell 1; have x2 := HX1.out.cell 2; have x3 := HX1.out.cell 3; have x4 := HX1.out.cell 4; clear hb1 hq)
      | (go_at_call 11; refine (pexprs_any shB _ _ _ HL1.out HS.out asks_shB).mono ?_; rintro e w2 ⟨⟨q, rfl, hq⟩, hb2⟩; obtain rfl : q = true := hq.2 HAll.out; have HB2 := Lib.hid (HB1.out.trans (hb2.mono HB1.out.size)); have HX2 := Lib.hid (HX1.out.below hb2 HX1.out.lt); have y0 := HX2.out.cell 0; have y1 := HX2.out.cell 1; have y2 := HX2.out.cell 2; have y3 := HX2.out.cell 3; have y4 := HX2.out.cell 4; clear hb2 hq x0 x1 x2 x3 x4)
      | (go_at_call 12; refine (HE.out _ HB2.out).mono ?_; rintro e w3 ⟨rfl, hb3⟩; have HB3 := Lib.hid (HB2.out.trans (hb3.mono HB2.out.size)); clear hb3))
    refine bodyPost_ret (v := .tuple #[.string r, .int .i64 0]) ?_ rfl ⟨rfl, HB3.out⟩
    simp [results, Tryd.results7, go_sem]
  · rw [if_neg h7, if_neg h7]
    have HD : Exs.Dp 8 [.cons k n s o a .nil] := ⟨_, List.mem_singleton.2 rfl, by simp only [Exs.height]; omega⟩
    have HDp := Lib.hid HD
    rw [hl] at HX HL HB ⊢
    clear h7 HD hl
    go_enter Tryd.func7, Tryd.ntmps7
    go_wp2_with (go_at_call 10; refine (deep_any _ _ _ HL.out HS.out).mono ?_; rintro e w1 ⟨⟨q, rfl, hq⟩, hb1⟩; obtain rfl : q = true := hq.2 HDp.out; have HB1 := Lib.hid (HB.out.trans (hb1.mono HB.out.size)); clear hb1 hq)
    refine bodyPost_ret (v := .tuple #[.string ⟨#[]⟩, .int .i64 4]) ?_ rfl ⟨rfl, HB1.out⟩
    simp [results, Tryd.results7, go_sem]
end Go.Proofs.YtaabhlkhddkglaaDoor
