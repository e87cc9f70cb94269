/- The code of layer 12: inputs and arrays, heads, points. No condition. -/
import Derived.Test.YtojnhdkclabkgaaGrCodeE
namespace Go.Proofs.Ytojnhdkclabkgaa
open Go.RowKit
set_option linter.unusedVariables false
set_option linter.unusedSimpArgs false
attribute [local go_sem] y_undef
theorem ent_rh1 (args : Array Value) (w : World) : (callFunc 87 args).run Try.prog w = .ok (.enter 87 args) w := enters_of Try.func87 (by kernel_rfl) rfl args w
theorem ent_rp11 (args : Array Value) (w : World) : (callFunc 85 args).run Try.prog w = .ok (.enter 85 args) w := enters_of Try.func85 (by kernel_rfl) rfl args w
theorem ent_rp1 (args : Array Value) (w : World) : (callFunc 83 args).run Try.prog w = .ok (.enter 83 args) w := enters_of Try.func83 (by kernel_rfl) rfl args w
theorem Sfe.set {b L o : Nat} {W W' : World} (h : Sfe b W W') (hL : L < b) (v : Value) : Sfe b W (W'.setCell ⟨L, o, none⟩ v) :=
  ⟨by simpa using h.1, fun j hb hj => (Below.heap_setCell W' ⟨L, o, none⟩ v j (by show j ≠ L; omega)).trans (h.2 j hb hj)⟩
set_option maxHeartbeats 4000000 in
theorem rdata_any (w : World) (Ai Aa Ab Ap Ah : Option Addr) (ni ci na ca nb cb np cp nh ch : Nat) (V K S : Int) (hV : -9223372036854775808 ≤ V ∧ V ≤ 64) (li : List (ByteArray × Int × Int)) (la : List (ByteArray × Int)) (hi : InsIn w (.slice Ai ni ci) li) (ha : ArsIn w (.slice Aa na ca) la) (hni : ni ≤ 140737488355328) (hna : na ≤ 140737488355328) (r : Bool)
    (hr : (Gr.inn K (V + 1) && decide ((ni : Int) ≤ K) && Gr.inn S (na + 1) && Gr.insOk li && Gr.arsOk la) = r) :
    Calls Try.prog 38 #[.agg #[.slice Ai ni ci, .int .i64 V, .int .i64 K, .slice Aa na ca, .int .i64 S, .slice Ab nb cb, .slice Ap np cp, .slice Ah nh ch]] w fun e w' => e = .returned (.bool r) ∧ Below w.heap.size w w' := by
  obtain ⟨A1, c1, e1, ho1⟩ := hi.opened
  obtain ⟨A2, c2, e2, ho2⟩ := ha.opened
  injection e1 with e1 e1' e1''
  subst e1 e1''
  injection e2 with e2 e2' e2''
  subst e2 e2''
  have HB := Lib.hid (bla (Below.refl w.heap.size w) (.cells #[.slice Ai ni ci, .int .i64 V, .int .i64 K, .slice Aa na ca, .int .i64 S, .slice Ab nb cb, .slice Ap np cp, .slice Ah nh ch] 40))
  have HG := Lib.hid (Bk.new w 40 #[.slice Ai ni ci, .int .i64 V, .int .i64 K, .slice Aa na ca, .int .i64 S, .slice Ab nb cb, .slice Ap np cp, .slice Ah nh ch])
  have HC1 := Lib.hid fun (W : World) (hW : Below w.heap.size w W) (q : Bool) (hq : Gr.insOk li = q) =>
    everyIn_any 74 #[] ent_rd1 Ai ni ci (fun k => (li.getD k Gr.in0).1) (fun k => (li.getD k Gr.in0).2.1) (fun k => (li.getD k Gr.in0).2.2) W (fun k => Gr.inOk (li.getD k Gr.in0)) (fun _ W' => Below W.heap.size W W') (Gr.le_max hni) (Below.refl _ _)
    (fun k W' hI hk => by
      obtain ⟨bb, off, e, hb, h0, h1, h2⟩ := ho1 k (by omega)
      have hw := blt hW hI
      exact ⟨bb, off, e, (Below.cell hw (p := ⟨bb, off + k * 3, none⟩) hb).trans h0, (Below.cell hw (p := ⟨bb, off + k * 3 + 1, none⟩) hb).trans h1, (Below.cell hw (p := ⟨bb, off + k * 3 + 2, none⟩) hb).trans h2⟩)
    (fun k W' W'' hI hb => blt hI hb)
    (fun k W' hI hk => (rdin_any (li.getD k Gr.in0).1 (li.getD k Gr.in0).2.1 (li.getD k Gr.in0).2.2 _ rfl W').mono fun e w' h => ⟨h.1, blt hI h.2, Sfe.of_below h.2⟩) q (by rw [← hq]; unfold Gr.insOk; rw [← e1'])
  have HC2 := Lib.hid fun (W : World) (hW : Below w.heap.size w W) (q : Bool) (hq : Gr.arsOk la = q) =>
    everyAr_any 77 #[] ent_rd2 Aa na ca (fun k => (la.getD k Gr.ar0).1) (fun k => (la.getD k Gr.ar0).2) W (fun k => Gr.arOk (la.getD k Gr.ar0)) (fun _ W' => Below W.heap.size W W') (Gr.le_max hna) (Below.refl _ _)
    (fun k W' hI hk => by
      obtain ⟨bb, off, e, hb, h0, h1⟩ := ho2 k (by omega)
      have hw := blt hW hI
      exact ⟨bb, off, e, (Below.cell hw (p := ⟨bb, off + k * 2, none⟩) hb).trans h0, (Below.cell hw (p := ⟨bb, off + k * 2 + 1, none⟩) hb).trans h1⟩)
    (fun k W' W'' hI hb => blt hI hb)
    (fun k W' hI hk => (rdar_any (la.getD k Gr.ar0).1 (la.getD k Gr.ar0).2 _ rfl W').mono fun e w' h => ⟨h.1, blt hI h.2, Sfe.of_below h.2⟩) q (by rw [← hq]; unfold Gr.arsOk; rw [← e2'])
  have HR := Lib.hid hr
  obtain ⟨hV1, hV2⟩ := hV
  clear hi ha ho1 ho2 e1' e2' hr
  cases h1 : Gr.inn K (V + 1)
  · have H1 := Lib.hid h1
    clear h1
    go_enter Try.func38, Try.ntmps38
    go_wp2_with fail
    refine (gbelow_any K (V + 1) _ H1.out _).mono ?_
    rintro e w1 ⟨rfl, rfl⟩
    go_wp2
    go_ret
    exact ⟨ret_bool (by rw [← HR.out, H1.out]; rfl), HB.out⟩
  · have H1 := Lib.hid h1
    clear h1
    by_cases h2 : (ni : Int) ≤ K
    · have H2 := Lib.hid h2
      cases h3 : Gr.inn S (na + 1)
      · have H3 := Lib.hid h3
        clear h3
        go_enter Try.func38, Try.ntmps38
        go_wp2_with fail
        refine (gbelow_any K (V + 1) _ H1.out _).mono ?_
        rintro e w1 ⟨rfl, rfl⟩
        go_wp2_with fail
        refine (gbelow_any S (na + 1) _ H3.out _).mono ?_
        rintro e w3 ⟨rfl, rfl⟩
        go_wp2
        go_ret
        exact ⟨ret_bool (by rw [← HR.out, H1.out, decide_eq_true H2.out, H3.out]; rfl), HB.out⟩
      · have H3 := Lib.hid h3
        clear h3
        cases h4 : Gr.insOk li
        · have H4 := Lib.hid h4
          clear h4
          go_enter Try.func38, Try.ntmps38
          go_wp2_with fail
          refine (gbelow_any K (V + 1) _ H1.out _).mono ?_
          rintro e w1 ⟨rfl, rfl⟩
          go_wp2_with fail
          refine (gbelow_any S (na + 1) _ H3.out _).mono ?_
          rintro e w3 ⟨rfl, rfl⟩
          go_wp2_with fail
          refine (HC1.out _ HB.out _ H4.out).mono ?_
          rintro e w4 ⟨rfl, k, hb4⟩
          have HB4 := Lib.hid (blt HB.out hb4)
          clear hb4
          go_wp2
          go_ret
          exact ⟨ret_bool (by rw [← HR.out, H1.out, decide_eq_true H2.out, H3.out, H4.out]; rfl), HB4.out⟩
        · have H4 := Lib.hid h4
          clear h4
          cases h5 : Gr.arsOk la
          · have H5 := Lib.hid h5
            clear h5
            go_enter Try.func38, Try.ntmps38
            go_wp2_with fail
            refine (gbelow_any K (V + 1) _ H1.out _).mono ?_
            rintro e w1 ⟨rfl, rfl⟩
            go_wp2_with fail
            refine (gbelow_any S (na + 1) _ H3.out _).mono ?_
            rintro e w3 ⟨rfl, rfl⟩
            go_wp2_with fail
            refine (HC1.out _ HB.out _ H4.out).mono ?_
            rintro e w4 ⟨rfl, k, hb4⟩
            have HB4 := Lib.hid (blt HB.out hb4)
            have g3 := (HG.out.below hb4).cell 3
            clear hb4
            go_wp2_with fail
            refine (HC2.out _ HB4.out _ H5.out).mono ?_
            rintro e w5 ⟨rfl, k, hb5⟩
            have HB5 := Lib.hid (blt HB4.out hb5)
            clear hb5
            go_wp2
            go_ret
            exact ⟨ret_bool (by rw [← HR.out, H1.out, decide_eq_true H2.out, H3.out, H4.out, H5.out]; rfl), HB5.out⟩
          · have H5 := Lib.hid h5
            clear h5
            go_enter Try.func38, Try.ntmps38
            go_wp2_with fail
            refine (gbelow_any K (V + 1) _ H1.out _).mono ?_
            rintro e w1 ⟨rfl, rfl⟩
            go_wp2_with fail
            refine (gbelow_any S (na + 1) _ H3.out _).mono ?_
            rintro e w3 ⟨rfl, rfl⟩
            go_wp2_with fail
            refine (HC1.out _ HB.out _ H4.out).mono ?_
            rintro e w4 ⟨rfl, k, hb4⟩
            have HB4 := Lib.hid (blt HB.out hb4)
            have g3 := (HG.out.below hb4).cell 3
            clear hb4
            go_wp2_with fail
            refine (HC2.out _ HB4.out _ H5.out).mono ?_
            rintro e w5 ⟨rfl, k, hb5⟩
            have HB5 := Lib.hid (blt HB4.out hb5)
            clear hb5
            go_wp2
            go_ret
            exact ⟨ret_bool (by rw [← HR.out, H1.out, decide_eq_true H2.out, H3.out, H4.out, H5.out]; rfl), HB5.out⟩
    · have H2 := Lib.hid h2
      go_enter Try.func38, Try.ntmps38
      go_wp2_with fail
      refine (gbelow_any K (V + 1) _ H1.out _).mono ?_
      rintro e w1 ⟨rfl, rfl⟩
      go_wp2
      go_ret
      exact ⟨ret_bool (by rw [← HR.out, H1.out, decide_eq_false (show ¬ (ni : Int) ≤ K by have := H2.out; omega)]; rfl), HB.out⟩
/-- One head. -/
theorem rh1_any (x y la : Int) (L B : Nat) (Ab : Option Addr) (nb cb : Nat) (r : Bool) (hr : (decide (la < x) && Gr.inn x nb && Gr.inn y 4001) = r) (w : World) (hl : Bk w L 3 #[.int .i64 la]) (hg : w.cell? ⟨B, 5, none⟩ = some (.slice Ab nb cb)) :
    Calls Try.prog 87 #[.agg #[.int .i64 x, .int .i64 y], .pointer (some ⟨L, 0, none⟩), .pointer (some ⟨B, 0, none⟩)] w fun e w' => e = .returned (.bool r) ∧ w' = (w.setCell ⟨L, 0, none⟩ (.int .i64 x)).alloc (.cells #[.int .i64 x, .int .i64 y] 52) := by
  have l0 := hl.cell 0
  have hL : L < w.heap.size := hl.lt
  have hBs : B < w.heap.size := World.block_lt_of_cell? w _ hg
  have f0 : (w.alloc (.cells #[.int .i64 x, .int .i64 y] 52)).frozen? ⟨L, 0, none⟩ = false := (hl.below (bla (Below.refl _ _) _)).frozen 0
  have HR := Lib.hid hr
  clear hl hr
  by_cases h1 : la < x
  · have H1 := Lib.hid h1
    cases h2 : Gr.inn x nb
    · have H2 := Lib.hid h2
      clear h2
      go_enter Try.func87, Try.ntmps87
      go_wp2_with fail
      refine (gbelow_any x nb _ H2.out _).mono ?_
      rintro e w' ⟨rfl, rfl⟩
      go_wp2
      go_ret
      exact ⟨ret_bool (by rw [← HR.out, decide_eq_true H1.out, H2.out]; rfl), rfl⟩
    · cases h3 : Gr.inn y 4001
      all_goals
        have H2 := Lib.hid h2
        have H3 := Lib.hid h3
        clear h2 h3
        go_enter Try.func87, Try.ntmps87
        go_wp2_with fail
        refine (gbelow_any x nb _ H2.out _).mono ?_
        rintro e w' ⟨rfl, rfl⟩
        go_wp2_with fail
        refine (gbelow_any y 4001 _ H3.out _).mono ?_
        rintro e w' ⟨rfl, rfl⟩
        go_wp2
        go_ret
        exact ⟨ret_bool (by rw [← HR.out, decide_eq_true H1.out, H2.out, H3.out]; rfl), rfl⟩
  · have H1 := Lib.hid h1
    go_enter Try.func87, Try.ntmps87
    go_wp2
    go_ret
    exact ⟨ret_bool (by rw [← HR.out, decide_eq_false (show ¬ la < x by have := H1.out; omega)]; rfl), rfl⟩
set_option maxHeartbeats 4000000 in
theorem rheads_any (Ai Aa Ab Ap Ah : Option Addr) (ni ci na ca nb cb np cp nh ch : Nat) (V K S : Int) (l : List (Int × Int)) (r : Bool) (hr : Gr.hdsOk nb l = r) (w : World) (hv : PrsIn w (.slice Ah nh ch) l) (hm : nh ≤ maxLen) :
    Calls Try.prog 41 #[.agg #[.slice Ai ni ci, .int .i64 V, .int .i64 K, .slice Aa na ca, .int .i64 S, .slice Ab nb cb, .slice Ap np cp, .slice Ah nh ch]] w fun e w' => e = .returned (.bool r) ∧ Below w.heap.size w w' := by
  obtain ⟨A, c, hA, ho⟩ := hv.opened
  injection hA with hA1 hA2 hA3
  subst hA1 hA3
  obtain ⟨W1, hW1⟩ : ∃ W1, W1 = (w.alloc (.cells #[.slice Ai ni ci, .int .i64 V, .int .i64 K, .slice Aa na ca, .int .i64 S, .slice Ab nb cb, .slice Ap np cp, .slice Ah nh ch] 40)).alloc (.cells #[.int .i64 (-1)] 3) := ⟨_, rfl⟩
  have hB1 : Below w.heap.size w W1 := by rw [hW1]; exact bla (bla (Below.refl _ _) _) _
  have hG1 : Bk W1 w.heap.size 40 #[.slice Ai ni ci, .int .i64 V, .int .i64 K, .slice Aa na ca, .int .i64 S, .slice Ab nb cb, .slice Ap np cp, .slice Ah nh ch] := by rw [hW1]; exact (Bk.new w _ _).below (bla (Below.refl _ _) _)
  have hL1 : Bk W1 (w.heap.size + 1) 3 #[.int .i64 (-1)] := by
    have := Bk.new (w.alloc (.cells #[.slice Ai ni ci, .int .i64 V, .int .i64 K, .slice Aa na ca, .int .i64 S, .slice Ab nb cb, .slice Ap np cp, .slice Ah nh ch] 40)) 3 #[.int .i64 (-1)]
    rw [size_alloc] at this
    rw [hW1]
    exact this
  have hS1 : W1.heap.size = w.heap.size + 1 + 1 := by rw [hW1]; simp
  have HC := Lib.hid fun (q : Bool) (hq : Gr.hdsOk nb l = q) =>
    everyHd_any 87 #[.pointer (some ⟨w.heap.size + 1, 0, none⟩), .pointer (some ⟨w.heap.size, 0, none⟩)] ent_rh1 Ah nh ch (fun k => (l.getD k (0, 0)).1) (fun k => (l.getD k (0, 0)).2) W1 (fun k => Gr.hdAt nb l k)
      (fun k W => Below w.heap.size w W ∧ Bk W w.heap.size 40 #[.slice Ai ni ci, .int .i64 V, .int .i64 K, .slice Aa na ca, .int .i64 S, .slice Ab nb cb, .slice Ap np cp, .slice Ah nh ch] ∧ Bk W (w.heap.size + 1) 3 #[.int .i64 (Gr.hdLast l k)]) hm ⟨hB1, hG1, hL1⟩
    (fun k W hI hk => by
      obtain ⟨bb, off, e, hb, h0, h1⟩ := ho k (by omega)
      exact ⟨bb, off, e, (Below.cell hI.1 (p := ⟨bb, off + k * 2, none⟩) hb).trans h0, (Below.cell hI.1 (p := ⟨bb, off + k * 2 + 1, none⟩) hb).trans h1⟩)
    (fun k W W' hI hb => ⟨blt hI.1 hb, hI.2.1.below hb, hI.2.2.below hb⟩)
    (fun k W hI hk => (rh1_any (l.getD k (0, 0)).1 (l.getD k (0, 0)).2 (Gr.hdLast l k) (w.heap.size + 1) w.heap.size Ab nb cb _ rfl W hI.2.2 (hI.2.1.cell 5)).mono fun e w' h => by
      refine ⟨h.1, ?_, ?_⟩
      · rw [h.2]
        refine ⟨bla (hI.1.setCell (by show w.heap.size ≤ w.heap.size + 1; omega) _) _, (hI.2.1.far (by show w.heap.size ≠ w.heap.size + 1; omega) _).below (bla (Below.refl _ _) _), ?_⟩
        have := (hI.2.2.set 0 (.int .i64 (l.getD k (0, 0)).1)).below (bla (Below.refl _ _) (.cells #[.int .i64 (l.getD k (0, 0)).1, .int .i64 (l.getD k (0, 0)).2] 52))
        simpa [Gr.hdLast] using this
      · rw [h.2]
        exact ((Sfe.of_below (Below.refl _ _)).set (by omega) _).trans (Sfe.of_below (bla (Below.refl _ _) _))) q (by rw [← hq]; unfold Gr.hdsOk; rw [← hA2])
  have HB := Lib.hid hB1
  clear hv ho hA2 hB1 hG1 hL1 hS1
  subst hW1
  cases h1 : Gr.hdsOk nb l
  all_goals
    have H1 := Lib.hid h1
    rw [h1] at hr
    subst hr
    clear h1
    go_enter Try.func41, Try.ntmps41
    go_wp2_with fail
    refine (HC.out _ H1.out).mono ?_
    rintro e w' ⟨rfl, k, hb⟩
    go_wp2
    go_ret
    exact ⟨rfl, hb.1⟩
end Go.Proofs.Ytojnhdkclabkgaa
