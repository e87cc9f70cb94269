/- The code of layer 12: inputs and arrays, heads, points. No condition. The code of layer 12: points. No condition. -/
import Derived.Test.YtojflhkmonicoaaGreatGrC
namespace Go.Proofs.YtojflhkmonicoaaGreat
open Go.RowKit
set_option linter.unusedVariables false
set_option linter.unusedSimpArgs false
attribute [local go_sem] y_undef
theorem ent_rh1 (args : Array Value) (w : World) : (callFunc 63 args).run Tryz.prog w = .ok (.enter 63 args) w := enters_of Tryz.func63 (by kernel_rfl) rfl args w
theorem ent_rp11 (args : Array Value) (w : World) : (callFunc 61 args).run Tryz.prog w = .ok (.enter 61 args) w := enters_of Tryz.func61 (by kernel_rfl) rfl args w
theorem ent_rp1 (args : Array Value) (w : World) : (callFunc 59 args).run Tryz.prog w = .ok (.enter 59 args) w := enters_of Tryz.func59 (by kernel_rfl) rfl args w
theorem Sfe.set {b L o : Nat} {W W' : World} (h : Sfe b W W') (hL : L < b) (v : Value) : Sfe b W (W'.setCell ⟨L, o, none⟩ v) :=
  ⟨by simpa using h.1, fun j hb hj => (Below.heap_setCell W' ⟨L, o, none⟩ v j (by show j ≠ L; omega)).trans (h.2 j hb hj)⟩
set_option maxHeartbeats 4000000 in
theorem rdata_any (w : World) (Ai Aa Ab Ap Ah : Option Addr) (ni ci na ca nb cb np cp nh ch : Nat) (V K S : Int) (hV : -9223372036854775808 ≤ V ∧ V ≤ 64) (li : List (ByteArray × Int × Int)) (la : List (ByteArray × Int)) (hi : InsIn w (.slice Ai ni ci) li) (ha : ArsIn w (.slice Aa na ca) la) (hni : ni ≤ 140737488355328) (hna : na ≤ 140737488355328) (r : Bool)
    (hr : (Gr.inn K (V + 1) && decide ((ni : Int) ≤ K) && Gr.inn S (na + 1) && Gr.insOk li && Gr.arsOk la) = r) :
    Calls Tryz.prog 31 #[.agg #[.slice Ai ni ci, .int .i64 V, .int .i64 K, .slice Aa na ca, .int .i64 S, .slice Ab nb cb, .slice Ap np cp, .slice Ah nh ch]] w fun e w' => e = .returned (.bool r) ∧ Below w.heap.size w w' := by
  obtain ⟨A1, c1, e1, ho1⟩ := hi.opened
  obtain ⟨A2, c2, e2, ho2⟩ := ha.opened
  injection e1 with e1 e1' e1''
  subst e1 e1''
  injection e2 with e2 e2' e2''
  subst e2 e2''
  have HB := Lib.hid (bla (Below.refl w.heap.size w) (.cells #[.slice Ai ni ci, .int .i64 V, .int .i64 K, .slice Aa na ca, .int .i64 S, .slice Ab nb cb, .slice Ap np cp, .slice Ah nh ch] 28))
  have HG := Lib.hid (Bk.new w 28 #[.slice Ai ni ci, .int .i64 V, .int .i64 K, .slice Aa na ca, .int .i64 S, .slice Ab nb cb, .slice Ap np cp, .slice Ah nh ch])
  have HC1 := Lib.hid fun (W : World) (hW : Below w.heap.size w W) (q : Bool) (hq : Gr.insOk li = q) =>
    everyIn_any 50 #[] ent_rd1 Ai ni ci (fun k => (li.getD k Gr.in0).1) (fun k => (li.getD k Gr.in0).2.1) (fun k => (li.getD k Gr.in0).2.2) W (fun k => Gr.inOk (li.getD k Gr.in0)) (fun _ W' => Below W.heap.size W W') (Gr.le_max hni) (Below.refl _ _)
    (fun k W' hI hk => by
      obtain ⟨bb, off, e, hb, h0, h1, h2⟩ := ho1 k (by omega)
      have hw := blt hW hI
      exact ⟨bb, off, e, (Below.cell hw (p := ⟨bb, off + k * 3, none⟩) hb).trans h0, (Below.cell hw (p := ⟨bb, off + k * 3 + 1, none⟩) hb).trans h1, (Below.cell hw (p := ⟨bb, off + k * 3 + 2, none⟩) hb).trans h2⟩)
    (fun k W' W'' hI hb => blt hI hb)
    (fun k W' hI hk => (rdin_any (li.getD k Gr.in0).1 (li.getD k Gr.in0).2.1 (li.getD k Gr.in0).2.2 _ rfl W').mono fun e w' h => ⟨h.1, blt hI h.2, Sfe.of_below h.2⟩) q (by rw [← hq]; unfold Gr.insOk; rw [← e1'])
  have HC2 := Lib.hid fun (W : World) (hW : Below w.heap.size w W) (q : Bool) (hq : Gr.arsOk la = q) =>
    everyAr_any 53 #[] ent_rd2 Aa na ca (fun k => (la.getD k Gr.ar0).1) (fun k => (la.getD k Gr.ar0).2) W (fun k => Gr.arOk (la.getD k Gr.ar0)) (fun _ W' => Below W.heap.size W W') (Gr.le_max hna) (Below.refl _ _)
    (fun k W' hI hk => by
      obtain ⟨bb, off, e, hb, h0, h1⟩ := ho2 k (by omega)
      have hw := blt hW hI
      exact ⟨bb, off, e, (Below.cell hw (p := ⟨bb, off + k * 2, none⟩) hb).trans h0, (Below.cell hw (p := ⟨bb, off + k * 2 + 1, none⟩) hb).trans h1⟩)
    (fun k W' W'' hI hb => blt hI hb)
    (fun k W' hI hk => (rdar_any (la.getD k Gr.ar0).1 (la.getD k Gr.ar0).2 _ rfl W').mono fun e w' h => ⟨h.1, blt hI h.2, Sfe.of_below h.2⟩) q (by rw [← hq]; unfold Gr.arsOk; rw [← e2'])
  have HR := Lib.hid hr
  obtain ⟨hV1, hV2⟩ := hV
  clear hi ha ho1 ho2 e1' e2' hr
  cases h1 : Gr.inn K (V + 1)
  · have H1 := Lib.hid h1
    clear h1
    go_enter Tryz.func31, Tryz.ntmps31
    go_wp2_with fail
    refine (gbelow_any K (V + 1) _ H1.out _).mono ?_
    rintro e w1 ⟨rfl, rfl⟩
    go_wp2
    go_ret
    exact ⟨ret_bool (by rw [← HR.out, H1.out]; rfl), HB.out⟩
  · have H1 := Lib.hid h1
    clear h1
    by_cases h2 : (ni : Int) ≤ K
    · have H2 := Lib.hid h2
      cases h3 : Gr.inn S (na + 1)
      · have H3 := Lib.hid h3
        clear h3
        go_enter Tryz.func31, Tryz.ntmps31
        go_wp2_with fail
        refine (gbelow_any K (V + 1) _ H1.out _).mono ?_
        rintro e w1 ⟨rfl, rfl⟩
        go_wp2_with fail
        refine (gbelow_any S (na + 1) _ H3.out _).mono ?_
        rintro e w3 ⟨rfl, rfl⟩
        go_wp2
        go_ret
        exact ⟨ret_bool (by rw [← HR.out, H1.out, decide_eq_true H2.out, H3.out]; rfl), HB.out⟩
      · have H3 := Lib.hid h3
        clear h3
        cases h4 : Gr.insOk li
        · have H4 := Lib.hid h4
          clear h4
          go_enter Tryz.func31, Tryz.ntmps31
          go_wp2_with fail
          refine (gbelow_any K (V + 1) _ H1.out _).mono ?_
          rintro e w1 ⟨rfl, rfl⟩
          go_wp2_with fail
          refine (gbelow_any S (na + 1) _ H3.out _).mono ?_
          rintro e w3 ⟨rfl, rfl⟩
          go_wp2_with fail
          refine (HC1.out _ HB.out _ H4.out).mono ?_
          rintro e w4 ⟨rfl, k, hb4⟩
          have HB4 := Lib.hid (blt HB.out hb4)
          clear hb4
          go_wp2
          go_ret
          exact ⟨ret_bool (by rw [← HR.out, H1.out, decide_eq_true H2.out, H3.out, H4.out]; rfl), HB4.out⟩
        · have H4 := Lib.hid h4
          clear h4
          cases h5 : Gr.arsOk la
          · have H5 := Lib.hid h5
            clear h5
            go_enter Tryz.func31, Tryz.ntmps31
            go_wp2_with fail
            refine (gbelow_any K (V + 1) _ H1.out _).mono ?_
            rintro e w1 ⟨rfl, rfl⟩
            go_wp2_with fail
            refine (gbelow_any S (na + 1) _ H3.out _).mono ?_
            rintro e w3 ⟨rfl, rfl⟩
            go_wp2_with fail
            refine (HC1.out _ HB.out _ H4.out).mono ?_
            rintro e w4 ⟨rfl, k, hb4⟩
            have HB4 := Lib.hid (blt HB.out hb4)
            have g3 := (HG.out.below hb4).cell 3
            clear hb4
            go_wp2_with fail
            refine (HC2.out _ HB4.out _ H5.out).mono ?_
            rintro e w5 ⟨rfl, k, hb5⟩
            have HB5 := Lib.hid (blt HB4.out hb5)
            clear hb5
            go_wp2
            go_ret
            exact ⟨ret_bool (by rw [← HR.out, H1.out, decide_eq_true H2.out, H3.out, H4.out, H5.out]; rfl), HB5.out⟩
          · have H5 := Lib.hid h5
            clear h5
            go_enter Tryz.func31, Tryz.ntmps31
            go_wp2_with fail
            refine (gbelow_any K (V + 1) _ H1.out _).mono ?_
            rintro e w1 ⟨rfl, rfl⟩
            go_wp2_with fail
            refine (gbelow_any S (na + 1) _ H3.out _).mono ?_
            rintro e w3 ⟨rfl, rfl⟩
            go_wp2_with fail
            refine (HC1.out _ HB.out _ H4.out).mono ?_
            rintro e w4 ⟨rfl, k, hb4⟩
            have HB4 := Lib.hid (blt HB.out hb4)
            have g3 := (HG.out.below hb4).cell 3
            clear hb4
            go_wp2_with fail
            refine (HC2.out _ HB4.out _ H5.out).mono ?_
            rintro e w5 ⟨rfl, k, hb5⟩
            have HB5 := Lib.hid (blt HB4.out hb5)
            clear hb5
            go_wp2
            go_ret
            exact ⟨ret_bool (by rw [← HR.out, H1.out, decide_eq_true H2.out, H3.out, H4.out, H5.out]; rfl), HB5.out⟩
    · have H2 := Lib.hid h2
      go_enter Tryz.func31, Tryz.ntmps31
      go_wp2_with fail
      refine (gbelow_any K (V + 1) _ H1.out _).mono ?_
      rintro e w1 ⟨rfl, rfl⟩
      go_wp2
      go_ret
      exact ⟨ret_bool (by rw [← HR.out, H1.out, decide_eq_false (show ¬ (ni : Int) ≤ K by have := H2.out; omega)]; rfl), HB.out⟩
/-- One head. -/
theorem rh1_any (x y la : Int) (L B : Nat) (Ab : Option Addr) (nb cb : Nat) (r : Bool) (hr : (decide (la < x) && Gr.inn x nb && Gr.inn y 4001) = r) (w : World) (hl : Bk w L 3 #[.int .i64 la]) (hg : w.cell? ⟨B, 5, none⟩ = some (.slice Ab nb cb)) :
    Calls Tryz.prog 63 #[.agg #[.int .i64 x, .int .i64 y], .pointer (some ⟨L, 0, none⟩), .pointer (some ⟨B, 0, none⟩)] w fun e w' => e = .returned (.bool r) ∧ w' = (w.setCell ⟨L, 0, none⟩ (.int .i64 x)).alloc (.cells #[.int .i64 x, .int .i64 y] 59) := by
  have l0 := hl.cell 0
  have hL : L < w.heap.size := hl.lt
  have hBs : B < w.heap.size := World.block_lt_of_cell? w _ hg
  have f0 : (w.alloc (.cells #[.int .i64 x, .int .i64 y] 59)).frozen? ⟨L, 0, none⟩ = false := (hl.below (bla (Below.refl _ _) _)).frozen 0
  have HR := Lib.hid hr
  clear hl hr
  by_cases h1 : la < x
  · have H1 := Lib.hid h1
    cases h2 : Gr.inn x nb
    · have H2 := Lib.hid h2
      clear h2
      go_enter Tryz.func63, Tryz.ntmps63
      go_wp2_with fail
      refine (gbelow_any x nb _ H2.out _).mono ?_
      rintro e w' ⟨rfl, rfl⟩
      go_wp2
      go_ret
      exact ⟨ret_bool (by rw [← HR.out, decide_eq_true H1.out, H2.out]; rfl), rfl⟩
    · cases h3 : Gr.inn y 4001
      all_goals
        have H2 := Lib.hid h2
        have H3 := Lib.hid h3
        clear h2 h3
        go_enter Tryz.func63, Tryz.ntmps63
        go_wp2_with fail
        refine (gbelow_any x nb _ H2.out _).mono ?_
        rintro e w' ⟨rfl, rfl⟩
        go_wp2_with fail
        refine (gbelow_any y 4001 _ H3.out _).mono ?_
        rintro e w' ⟨rfl, rfl⟩
        go_wp2
        go_ret
        exact ⟨ret_bool (by rw [← HR.out, decide_eq_true H1.out, H2.out, H3.out]; rfl), rfl⟩
  · have H1 := Lib.hid h1
    go_enter Tryz.func63, Tryz.ntmps63
    go_wp2
    go_ret
    exact ⟨ret_bool (by rw [← HR.out, decide_eq_false (show ¬ la < x by have := H1.out; omega)]; rfl), rfl⟩
set_option maxHeartbeats 4000000 in
theorem rheads_any (Ai Aa Ab Ap Ah : Option Addr) (ni ci na ca nb cb np cp nh ch : Nat) (V K S : Int) (l : List (Int × Int)) (r : Bool) (hr : Gr.hdsOk nb l = r) (w : World) (hv : PrsIn w (.slice Ah nh ch) l) (hm : nh ≤ maxLen) :
    Calls Tryz.prog 34 #[.agg #[.slice Ai ni ci, .int .i64 V, .int .i64 K, .slice Aa na ca, .int .i64 S, .slice Ab nb cb, .slice Ap np cp, .slice Ah nh ch]] w fun e w' => e = .returned (.bool r) ∧ Below w.heap.size w w' := by
  obtain ⟨A, c, hA, ho⟩ := hv.opened
  injection hA with hA1 hA2 hA3
  subst hA1 hA3
  obtain ⟨W1, hW1⟩ : ∃ W1, W1 = (w.alloc (.cells #[.slice Ai ni ci, .int .i64 V, .int .i64 K, .slice Aa na ca, .int .i64 S, .slice Ab nb cb, .slice Ap np cp, .slice Ah nh ch] 28)).alloc (.cells #[.int .i64 (-1)] 3) := ⟨_, rfl⟩
  have hB1 : Below w.heap.size w W1 := by rw [hW1]; exact bla (bla (Below.refl _ _) _) _
  have hG1 : Bk W1 w.heap.size 28 #[.slice Ai ni ci, .int .i64 V, .int .i64 K, .slice Aa na ca, .int .i64 S, .slice Ab nb cb, .slice Ap np cp, .slice Ah nh ch] := by rw [hW1]; exact (Bk.new w _ _).below (bla (Below.refl _ _) _)
  have hL1 : Bk W1 (w.heap.size + 1) 3 #[.int .i64 (-1)] := by
    have := Bk.new (w.alloc (.cells #[.slice Ai ni ci, .int .i64 V, .int .i64 K, .slice Aa na ca, .int .i64 S, .slice Ab nb cb, .slice Ap np cp, .slice Ah nh ch] 28)) 3 #[.int .i64 (-1)]
    rw [size_alloc] at this
    rw [hW1]
    exact this
  have hS1 : W1.heap.size = w.heap.size + 1 + 1 := by rw [hW1]; simp
  have HC := Lib.hid fun (q : Bool) (hq : Gr.hdsOk nb l = q) =>
    everyHd_any 63 #[.pointer (some ⟨w.heap.size + 1, 0, none⟩), .pointer (some ⟨w.heap.size, 0, none⟩)] ent_rh1 Ah nh ch (fun k => (l.getD k (0, 0)).1) (fun k => (l.getD k (0, 0)).2) W1 (fun k => Gr.hdAt nb l k)
      (fun k W => Below w.heap.size w W ∧ Bk W w.heap.size 28 #[.slice Ai ni ci, .int .i64 V, .int .i64 K, .slice Aa na ca, .int .i64 S, .slice Ab nb cb, .slice Ap np cp, .slice Ah nh ch] ∧ Bk W (w.heap.size + 1) 3 #[.int .i64 (Gr.hdLast l k)]) hm ⟨hB1, hG1, hL1⟩
    (fun k W hI hk => by
      obtain ⟨bb, off, e, hb, h0, h1⟩ := ho k (by omega)
      exact ⟨bb, off, e, (Below.cell hI.1 (p := ⟨bb, off + k * 2, none⟩) hb).trans h0, (Below.cell hI.1 (p := ⟨bb, off + k * 2 + 1, none⟩) hb).trans h1⟩)
    (fun k W W' hI hb => ⟨blt hI.1 hb, hI.2.1.below hb, hI.2.2.below hb⟩)
    (fun k W hI hk => (rh1_any (l.getD k (0, 0)).1 (l.getD k (0, 0)).2 (Gr.hdLast l k) (w.heap.size + 1) w.heap.size Ab nb cb _ rfl W hI.2.2 (hI.2.1.cell 5)).mono fun e w' h => by
      refine ⟨h.1, ?_, ?_⟩
      · rw [h.2]
        refine ⟨bla (hI.1.setCell (by show w.heap.size ≤ w.heap.size + 1; omega) _) _, (hI.2.1.far (by show w.heap.size ≠ w.heap.size + 1; omega) _).below (bla (Below.refl _ _) _), ?_⟩
        have := (hI.2.2.set 0 (.int .i64 (l.getD k (0, 0)).1)).below (bla (Below.refl _ _) (.cells #[.int .i64 (l.getD k (0, 0)).1, .int .i64 (l.getD k (0, 0)).2] 59))
        simpa [Gr.hdLast] using this
      · rw [h.2]
        exact ((Sfe.of_below (Below.refl _ _)).set (by omega) _).trans (Sfe.of_below (bla (Below.refl _ _) _))) q (by rw [← hq]; unfold Gr.hdsOk; rw [← hA2])
  have HB := Lib.hid hB1
  clear hv ho hA2 hB1 hG1 hL1 hS1
  subst hW1
  cases h1 : Gr.hdsOk nb l
  all_goals
    have H1 := Lib.hid h1
    rw [h1] at hr
    subst hr
    clear h1
    go_enter Tryz.func34, Tryz.ntmps34
    go_wp2_with fail
    refine (HC.out _ H1.out).mono ?_
    rintro e w' ⟨rfl, k, hb⟩
    go_wp2
    go_ret
    exact ⟨rfl, hb.1⟩
end Go.Proofs.YtojflhkmonicoaaGreat
namespace Go.Proofs.YtojflhkmonicoaaGreat
open Go.RowKit
set_option linter.unusedVariables false
set_option linter.unusedSimpArgs false
attribute [local go_sem] y_undef
/-- A row of 64 truth values: number i is f i. -/
def boolRow (f : Nat → Bool) : Array Value := ((List.range 64).map fun i => Value.bool (f i)).toArray
theorem boolRow_at (f : Nat → Bool) (i : Nat) (h : i < 64) : (boolRow f)[i]? = some (.bool (f i)) := by simp [boolRow, h]
theorem boolRow_size (f : Nat → Bool) : (boolRow f).size = 64 := by simp [boolRow]
theorem boolRow_set (f f' : Nat → Bool) (i : Nat) (x : Bool) (h : ∀ j, j < 64 → f' j = if j = i then x else f j) : (boolRow f).setIfInBounds i (.bool x) = boolRow f' := by
  apply Array.ext_getElem?
  intro j
  rw [Array.getElem?_setIfInBounds]
  by_cases hj : j < 64
  · rw [boolRow_at f' j hj, boolRow_at f j hj, h j hj]
    by_cases e : i = j
    · subst e; simp [boolRow_size, hj]
    · rw [if_neg e, if_neg (fun e' => e e'.symm)]
  · have h1 : (boolRow f)[j]? = none := Array.getElem?_eq_none (by rw [boolRow_size]; omega)
    have h2 : (boolRow f')[j]? = none := Array.getElem?_eq_none (by rw [boolRow_size]; omega)
    rw [h1, h2, boolRow_size]
    by_cases e : i = j
    · subst e; rw [if_pos rfl, if_neg hj]
    · rw [if_neg e]
theorem boolRow_congr {f f' : Nat → Bool} (h : ∀ j, j < 64 → f' j = f j) : boolRow f' = boolRow f := by
  apply Array.ext_getElem?
  intro j
  by_cases hj : j < 64
  · rw [boolRow_at f' j hj, boolRow_at f j hj, h j hj]
  · rw [Array.getElem?_eq_none (by rw [boolRow_size]; omega), Array.getElem?_eq_none (by rw [boolRow_size]; omega)]
/-- Which of 64 numbers stand among the first k of a list, if they are in range. -/
def seenF (n : Int) (l : List Int) (k j : Nat) : Bool := (List.range k).any fun i => Gr.inn (l.getD i 0) n && decide (l.getD i 0 = (j : Int))
theorem seenF_succ (n : Int) (l : List Int) (k j : Nat) : seenF n l (k + 1) j = (seenF n l k j || (Gr.inn (l.getD k 0) n && decide (l.getD k 0 = (j : Int)))) := by
  unfold seenF
  rw [List.range_succ, List.any_append]
  simp
theorem ptAt_out {n : Int} {l : List Int} {k : Nat} (h : Gr.inn (l.getD k 0) n = false) : Gr.ptAt n l k = false ∧ ∀ j, seenF n l (k + 1) j = seenF n l k j :=
  ⟨by unfold Gr.ptAt; rw [h]; rfl, fun j => by rw [seenF_succ, h]; simp⟩
theorem ptAt_in {n : Int} {l : List Int} {k m : Nat} (h : Gr.inn (l.getD k 0) n = true) (hm : l.getD k 0 = (m : Int)) : Gr.ptAt n l k = !(seenF n l k m) := by
  unfold Gr.ptAt seenF
  rw [h, hm, Bool.true_and, Bool.eq_iff_iff, List.all_eq_true, Bool.not_eq_true', List.any_eq_false]
  constructor
  · intro hh j hj
    have := hh j hj
    intro hc
    rw [Bool.and_eq_true] at hc
    simp only [decide_eq_true_eq] at this hc
    exact this hc.2
  · intro hh j hj
    have := hh j hj
    rw [decide_eq_true_eq]
    intro hc
    apply this
    rw [hc, ← hm, h]
    simp
theorem seen_in {n : Int} {l : List Int} {k m : Nat} (h : Gr.inn (l.getD k 0) n = true) (hm : l.getD k 0 = (m : Int)) (j : Nat) : seenF n l (k + 1) j = if j = m then true else seenF n l k j := by
  rw [seenF_succ, h, hm]
  by_cases e : j = m
  · subst e; simp
  · rw [if_neg e]
    have : decide ((m : Int) = (j : Int)) = false := by simp; omega
    rw [this]
    simp
/-- One number of a point's list. -/
theorem rp11_any (x : Int) (f : Nat → Bool) (G B : Nat) (Ab : Option Addr) (nb cb : Nat) (hnb : nb ≤ 64) (w : World) (hs : Bk w G 99 (boolRow f)) (hg : w.cell? ⟨B, 5, none⟩ = some (.slice Ab nb cb)) :
    Calls Tryz.prog 61 #[.int .i64 x, .pointer (some ⟨B, 0, none⟩), .pointer (some ⟨G, 0, none⟩)] w fun e w' =>
      if Gr.inn x nb = true then (∃ m : Nat, x = m ∧ m < 64 ∧ e = .returned (.bool (!(f m))) ∧ w' = if f m = true then w else w.setCell ⟨G, m, none⟩ (.bool true)) else e = .returned (.bool false) ∧ w' = w := by
  cases h1 : Gr.inn x nb
  · simp only [Bool.false_eq_true, if_false]
    have H1 := Lib.hid h1
    clear h1
    go_enter Tryz.func61, Tryz.ntmps61
    go_wp2_with fail
    refine (gbelow_any x nb _ H1.out _).mono ?_
    rintro e w' ⟨rfl, rfl⟩
    go_wp2
    go_ret
    exact ⟨rfl, rfl⟩
  · simp only [if_true]
    have h2 : 0 ≤ x ∧ x < nb := by
      unfold Gr.inn at h1
      simpa using h1
    obtain ⟨m, rfl⟩ : ∃ m : Nat, x = m := ⟨x.toNat, by omega⟩
    have hm : m < 64 := by omega
    have hc := (hs.cell m).trans (boolRow_at f m hm)
    have hf := hs.frozen m
    have H1 := Lib.hid h1
    have hm' : (m : Int) < 64 := by omega
    have hm0 : (0 : Int) ≤ (m : Int) := by omega
    refine Calls.mono (R := fun e w' => e = .returned (.bool (!(f m))) ∧ w' = if f m = true then w else w.setCell ⟨G, m, none⟩ (.bool true)) ?_ fun e w' h => ⟨m, rfl, hm, h⟩
    clear h1 h2 hs
    cases h3 : f m
    all_goals
      have H3 := Lib.hid h3
      rw [h3] at hc
      clear h3
      go_enter Tryz.func61, Tryz.ntmps61
      go_wp2_with fail
      refine (gbelow_any m nb _ H1.out _).mono ?_
      rintro e w' ⟨rfl, rfl⟩
      go_wp2
      go_ret
      exact ⟨rfl, by simp⟩
/-- A point's list. -/
theorem rp1_any (l : List Int) (A : Option Addr) (n c B : Nat) (Ab : Option Addr) (nb cb : Nat) (hnb : nb ≤ 64) (r : Bool) (hr : Gr.ptOk nb l = r) (w : World) (hv : NumsIn w (.slice A n c) l) (hm : n ≤ maxLen) (hg : w.cell? ⟨B, 5, none⟩ = some (.slice Ab nb cb)) :
    Calls Tryz.prog 59 #[.slice A n c, .pointer (some ⟨B, 0, none⟩)] w fun e w' => e = .returned (.bool r) ∧ Below w.heap.size w w' := by
  obtain ⟨A', c', hA, ho⟩ := hv.opened
  injection hA with hA1 hA2 hA3
  subst hA1 hA3
  have hBs : B < w.heap.size := World.block_lt_of_cell? w _ hg
  have hal : Below w.heap.size w (w.alloc (.cells (boolRow fun _ => false) 99)) := bla (Below.refl _ _) _
  have HC := Lib.hid (everyNm_any 61 #[.pointer (some ⟨B, 0, none⟩), .pointer (some ⟨w.heap.size, 0, none⟩)] ent_rp11 A n c (fun k => l.getD k 0) (w.alloc (.cells (boolRow fun _ => false) 99)) (fun k => Gr.ptAt nb l k)
      (fun k W => Below w.heap.size w W ∧ Bk W w.heap.size 99 (boolRow fun j => seenF nb l k j)) hm ⟨hal, Bk.new _ _ _⟩
    (fun k W hI hk => by
      obtain ⟨bb, off, e, hb, h0⟩ := ho k (by omega)
      exact ⟨bb, off, e, (Below.cell hI.1 (p := ⟨bb, off + k, none⟩) hb).trans h0⟩)
    (fun k W W' hI hb => ⟨blt hI.1 hb, hI.2.below hb⟩)
    (fun k W hI hk => (rp11_any (l.getD k 0) (fun j => seenF nb l k j) w.heap.size B Ab nb cb hnb W hI.2 ((Below.cell hI.1 (p := ⟨B, 5, none⟩) hBs).trans hg)).mono fun e w' h => by
      cases h1 : Gr.inn (l.getD k 0) nb
      · rw [if_neg (by rw [h1]; decide)] at h
        obtain ⟨h2, h3⟩ := ptAt_out h1
        rw [h.2, h2]
        refine ⟨h.1, ⟨hI.1, ?_⟩, Sfe.of_below (Below.refl _ _)⟩
        rw [boolRow_congr (f := fun j => seenF nb l k j) fun j _ => h3 j]
        exact hI.2
      · rw [if_pos h1] at h
        obtain ⟨m, hm, hm64, he, hw⟩ := h
        rw [ptAt_in h1 hm]
        cases h4 : seenF nb l k m
        · rw [h4] at he hw
          rw [hw]
          refine ⟨he, ⟨hI.1.setCell (Nat.le_refl _) _, ?_⟩, (Sfe.of_below (Below.refl _ _)).set (by simp) _⟩
          have := hI.2.set m (.bool true)
          rw [boolRow_set _ (fun j => seenF nb l (k + 1) j) m true fun j _ => seen_in h1 hm j] at this
          exact this
        · rw [h4] at he hw
          rw [hw]
          refine ⟨he, ⟨hI.1, ?_⟩, Sfe.of_below (Below.refl _ _)⟩
          rw [if_pos rfl, boolRow_congr (f := fun j => seenF nb l k j) fun j _ => by
            rw [seen_in h1 hm]
            by_cases e : j = m
            · subst e; rw [if_pos rfl, h4]
            · rw [if_neg e]]
          exact hI.2) r (by rw [← hr]; unfold Gr.ptOk; rw [← hA2]))
  clear hv ho hA2 hr hal hg
  go_enter Tryz.func59, Tryz.ntmps59
  go_wp2_with fail
  refine HC.out.mono ?_
  rintro e w' ⟨rfl, k, hb⟩
  go_wp2
  go_ret
  exact ⟨rfl, hb.1⟩
set_option maxHeartbeats 4000000 in
theorem rpoints_any (Ai Aa Ab Ap Ah : Option Addr) (ni ci na ca nb cb np cp nh ch : Nat) (V K S : Int) (hnb : nb ≤ 64) (l : List (List Int)) (r : Bool) (hr : Gr.ptsOk nb l = r) (w : World) (hv : LstsIn w (.slice Ap np cp) l) (hm : np ≤ maxLen) (hm2 : ∀ q ∈ l, q.length ≤ maxLen) :
    Calls Tryz.prog 33 #[.agg #[.slice Ai ni ci, .int .i64 V, .int .i64 K, .slice Aa na ca, .int .i64 S, .slice Ab nb cb, .slice Ap np cp, .slice Ah nh ch]] w fun e w' => e = .returned (.bool r) ∧ Below w.heap.size w w' := by
  obtain ⟨A, c, a1, c1, hA, ho⟩ := hv.opened
  injection hA with hA1 hA2 hA3
  subst hA1 hA3
  have HB := Lib.hid (bla (Below.refl w.heap.size w) (.cells #[.slice Ai ni ci, .int .i64 V, .int .i64 K, .slice Aa na ca, .int .i64 S, .slice Ab nb cb, .slice Ap np cp, .slice Ah nh ch] 28))
  have HG := Bk.new w 28 #[.slice Ai ni ci, .int .i64 V, .int .i64 K, .slice Aa na ca, .int .i64 S, .slice Ab nb cb, .slice Ap np cp, .slice Ah nh ch]
  have HC := Lib.hid fun (q : Bool) (hq : Gr.ptsOk nb l = q) =>
    everyLs_any 59 #[.pointer (some ⟨w.heap.size, 0, none⟩)] ent_rp1 Ap np cp a1 (fun k => (l.getD k []).length) c1 (w.alloc (.cells #[.slice Ai ni ci, .int .i64 V, .int .i64 K, .slice Aa na ca, .int .i64 S, .slice Ab nb cb, .slice Ap np cp, .slice Ah nh ch] 28)) (fun k => Gr.ptOk nb (l.getD k [])) (fun _ W => Below (w.alloc (.cells #[.slice Ai ni ci, .int .i64 V, .int .i64 K, .slice Aa na ca, .int .i64 S, .slice Ab nb cb, .slice Ap np cp, .slice Ah nh ch] 28)).heap.size (w.alloc (.cells #[.slice Ai ni ci, .int .i64 V, .int .i64 K, .slice Aa na ca, .int .i64 S, .slice Ab nb cb, .slice Ap np cp, .slice Ah nh ch] 28)) W) hm (Below.refl _ _)
    (fun k W hI hk => by
      obtain ⟨bb, off, e, hb, h0, h1⟩ := ho k (by omega)
      exact ⟨bb, off, e, (Below.cell (blt HB.out hI) (p := ⟨bb, off + k, none⟩) hb).trans h0⟩)
    (fun k W W' hI hb => blt hI hb)
    (fun k W hI hk => by
      obtain ⟨bb, off, e, hb, h0, h1⟩ := ho k (by omega)
      exact (rp1_any (l.getD k []) (a1 k) _ (c1 k) w.heap.size Ab nb cb hnb _ rfl W (h1.below (blt HB.out hI)) (hm2 _ (mem_getD (by omega))) ((HG.below hI).cell 5)).mono fun e w' h => ⟨h.1, blt hI h.2, Sfe.of_below h.2⟩) q (by rw [← hq]; unfold Gr.ptsOk; rw [← hA2])
  clear hv ho hA2 hm2 HG
  cases h1 : Gr.ptsOk nb l
  all_goals
    have H1 := Lib.hid h1
    rw [h1] at hr
    subst hr
    clear h1
    go_enter Tryz.func33, Tryz.ntmps33
    go_wp2_with fail
    refine (HC.out _ H1.out).mono ?_
    rintro e w' ⟨rfl, k, hb⟩
    go_wp2
    go_ret
    exact ⟨rfl, blt HB.out hb⟩
end Go.Proofs.YtojflhkmonicoaaGreat
