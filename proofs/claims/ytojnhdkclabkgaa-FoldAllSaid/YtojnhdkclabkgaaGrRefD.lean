/- The specification of layer 12: Check. No condition. -/
import Derived.Test.YtojnhdkclabkgaaGrRefC
import Derived.Test.YtojnhdkclabkgaaGrCodeH
namespace Go.Proofs.Ytojnhdkclabkgaa
open Go.RowKit
set_option linter.unusedVariables false
set_option linter.unusedSimpArgs false
attribute [local go_sem] y_undef
/-- The graph's box. -/
def Gq (w : World) (gc : Array Value) (u : World) : Prop := Below w.heap.size w u ∧ Bk u w.heap.size 40 gc
theorem Gq.below {w u u' : World} {gc : Array Value} (h : Gq w gc u) (hb : Below u.heap.size u u') : Gq w gc u' := ⟨blt h.1 hb, h.2.below hb⟩
theorem any_all_ne (n : Nat) (f : Nat → Int) (x : Int) : (!((List.range n).any fun j => decide (f j = x))) = (List.range n).all fun j => decide (f j ≠ x) := by
  rw [Bool.eq_iff_iff, Bool.not_eq_true', List.any_eq_false, List.all_eq_true]
  constructor
  · intro h j hj
    have := h j hj
    simpa using this
  · intro h j hj
    have := h j hj
    simpa using this
/-- Lists of numbers, as they lie, with room for what they have. -/
def PtsIn (w : World) (v : Value) (l : List (List Int)) : Prop :=
  ∃ (A : Option Addr) (c : Nat) (a1 : Nat → Option Addr) (c1 : Nat → Nat), v = .slice A l.length c ∧ ∀ i, i < l.length → ∃ b off, A = some ⟨b, off, none⟩ ∧ b < w.heap.size ∧
    w.cell? ⟨b, off + i, none⟩ = some (.slice (a1 i) (l.getD i []).length (c1 i)) ∧ NumsIn w (.slice (a1 i) (l.getD i []).length (c1 i)) (l.getD i []) ∧ (l.getD i []).length ≤ c1 i
set_option maxRecDepth 100000 in
set_option maxHeartbeats 40000000 in
theorem rcheck_any (g : Gr.G) (vi va vb vp vh : Value) (r : Int) (hr : Gr.chk g = r) (w : World) (hi : GrIn w g vi va vb vp vh) (hp : PtsIn w vp g.pts) (hf : Gr.Fit g) :
    Calls Try.prog 24 #[.agg #[vi, .int .i64 g.vars, .int .i64 g.keep, va, .int .i64 g.sh, vb, vp, vh]] w fun e w' => e = .returned (.int .i64 r) ∧ Below w.heap.size w w' := by
  subst hr
  obtain ⟨Ai, ci, rfl, hin⟩ := hi.ins.opened
  obtain ⟨Aa, ca, rfl, har⟩ := hi.ars.opened
  obtain ⟨Ab, cb, ba1, ba2, bc1, bc2, rfl, hbl⟩ := id hi.blks
  obtain ⟨Ap, cp, a1, c1, rfl, hpt⟩ := hp
  obtain ⟨Ah, ch, rfl, hhd⟩ := hi.hds.opened
  obtain ⟨ni, hni⟩ : ∃ n, g.ins.length = n := ⟨_, rfl⟩
  obtain ⟨na, hna⟩ : ∃ n, g.ars.length = n := ⟨_, rfl⟩
  obtain ⟨nb, hnb⟩ : ∃ n, g.blks.length = n := ⟨_, rfl⟩
  obtain ⟨np, hnp⟩ : ∃ n, g.pts.length = n := ⟨_, rfl⟩
  obtain ⟨nh, hnh⟩ : ∃ n, g.hds.length = n := ⟨_, rfl⟩
  obtain ⟨V, hV⟩ : ∃ n, g.vars = n := ⟨_, rfl⟩
  obtain ⟨K, hK⟩ : ∃ n, g.keep = n := ⟨_, rfl⟩
  obtain ⟨S, hS⟩ : ∃ n, g.sh = n := ⟨_, rfl⟩
  have hbg : Gr.big g = (decide (64 < nb) || decide (600 < Gr.opsN g.blks nb) || decide (64 < V) || decide (8 < na) || decide (39 < np)) := by unfold Gr.big Gr.manyB; rw [hV, hna, hnp, hnb]
  have hdat : Gr.datOk g = (Gr.inn K (V + 1) && decide ((ni : Int) ≤ K) && Gr.inn S (na + 1) && Gr.insOk g.ins && Gr.arsOk g.ars) := by unfold Gr.datOk; rw [hV, hK, hS, hna, hni]
  have hrt : Gr.right g = (Gr.datOk g && (decide (Gr.ends g.blks nb = 1) && Gr.blksOk V na nb g.blks) && Gr.ptsOk nb g.pts && Gr.hdsOk nb g.hds) := by unfold Gr.right; rw [hV, hna, hnb]
  have HBig := Lib.hid hbg
  have HDat := Lib.hid hdat
  have HRt := Lib.hid hrt
  have hbs := hi.blks
  rw [hni] at hin
  rw [hna] at har
  rw [hnb] at hbl hbs
  rw [hnp] at hpt
  rw [hnh] at hhd
  have HIn := Lib.hid hin
  have HAr := Lib.hid har
  have HBl := Lib.hid hbl
  have HPs := Lib.hid hpt
  have HH := Lib.hid hhd
  have HBs := Lib.hid hbs
  rw [hni, hna, hnb, hnp, hnh, hV, hK, hS]
  have b1 := hf.ins
  have b2 := hf.ars
  have b3 := hf.blks
  have b4 := hf.pts
  have b5 := hf.hds
  rw [hni] at b1
  rw [hna] at b2
  rw [hnb] at b3
  rw [hnp] at b4
  rw [hnh] at b5
  have HF0 := Lib.hid hf
  have HNi := Lib.hid hni
  have HNa := Lib.hid hna
  have HNb := Lib.hid hnb
  have HNp := Lib.hid hnp
  have HNh := Lib.hid hnh
  have GT0 := Lib.hid (show Gq w #[.slice Ai ni ci, .int .i64 V, .int .i64 K, .slice Aa na ca, .int .i64 S, .slice Ab nb cb, .slice Ap np cp, .slice Ah nh ch] (w.alloc (.cells #[.slice Ai ni ci, .int .i64 V, .int .i64 K, .slice Aa na ca, .int .i64 S, .slice Ab nb cb, .slice Ap np cp, .slice Ah nh ch] 40)) from ⟨bla (Below.refl _ _) _, Bk.new _ _ _⟩)
  have q5 := GT0.out.2.cell 5
  clear hi hf hni hna hnb hnp hnh hV hK hS hbg hdat hrt hin har hbl hpt hhd hbs
  by_cases t1 : (64 : Int) < nb
  · skip
    have e1 : decide ((64 : Int) < nb) = true := by simpa using t1
    have HX := Lib.hid (show Gr.chk g = 4 from Gr.chk_big (by rw [HBig.out]; simp; omega))
    go_enter Try.func24, Try.ntmps24
    go_wp2
    go_ret
    exact ⟨by rw [HX.out]; rfl, GT0.out.1⟩
  · skip
    have e1 : decide ((64 : Int) < nb) = false := decide_eq_false t1
    have b3' : nb ≤ 64 := by omega
    by_cases t2 : (600 : Int) < (Gr.opsN g.blks nb : Int)
    · skip
      have e2 : decide ((600 : Int) < (Gr.opsN g.blks nb : Int)) = true := decide_eq_true t2
      have HX := Lib.hid (show Gr.chk g = 4 from Gr.chk_big (by rw [HBig.out]; simp; omega))
      go_enter Try.func24, Try.ntmps24
      go_wp2_with fail
      refine (rOps_any Ai Aa Ab Ap Ah ni ci na ca nb cb np cp nh ch V K S g.blks _ (HBs.out.below GT0.out.1) b3' HF0.out.ops).mono ?_
      rintro e w1 ⟨rfl, hb1⟩
      have HT0 := Lib.hid (GT0.out.below hb1)
      have g0 := HT0.out.2.cell 0
      have g1 := HT0.out.2.cell 1
      have g2 := HT0.out.2.cell 2
      have g3 := HT0.out.2.cell 3
      have g4 := HT0.out.2.cell 4
      have g5 := HT0.out.2.cell 5
      have g6 := HT0.out.2.cell 6
      clear hb1
      go_wp2
      go_ret
      exact ⟨by rw [HX.out]; rfl, HT0.out.1⟩
    · skip
      have e2 : decide ((600 : Int) < (Gr.opsN g.blks nb : Int)) = false := decide_eq_false t2
      by_cases t3 : (64 : Int) < V
      · skip
        have e3 : decide ((64 : Int) < V) = true := by simpa using t3
        have HX := Lib.hid (show Gr.chk g = 4 from Gr.chk_big (by rw [HBig.out]; simp; omega))
        go_enter Try.func24, Try.ntmps24
        go_wp2_with fail
        refine (rOps_any Ai Aa Ab Ap Ah ni ci na ca nb cb np cp nh ch V K S g.blks _ (HBs.out.below GT0.out.1) b3' HF0.out.ops).mono ?_
        rintro e w1 ⟨rfl, hb1⟩
        have HT0 := Lib.hid (GT0.out.below hb1)
        have g0 := HT0.out.2.cell 0
        have g1 := HT0.out.2.cell 1
        have g2 := HT0.out.2.cell 2
        have g3 := HT0.out.2.cell 3
        have g4 := HT0.out.2.cell 4
        have g5 := HT0.out.2.cell 5
        have g6 := HT0.out.2.cell 6
        clear hb1
        go_wp2
        go_ret
        exact ⟨by rw [HX.out]; rfl, HT0.out.1⟩
      · skip
        have e3 : decide ((64 : Int) < V) = false := decide_eq_false t3
        by_cases t4 : (8 : Int) < na
        · skip
          have e4 : decide ((8 : Int) < na) = true := by simpa using t4
          have HX := Lib.hid (show Gr.chk g = 4 from Gr.chk_big (by rw [HBig.out]; simp; omega))
          go_enter Try.func24, Try.ntmps24
          go_wp2_with fail
          refine (rOps_any Ai Aa Ab Ap Ah ni ci na ca nb cb np cp nh ch V K S g.blks _ (HBs.out.below GT0.out.1) b3' HF0.out.ops).mono ?_
          rintro e w1 ⟨rfl, hb1⟩
          have HT0 := Lib.hid (GT0.out.below hb1)
          have g0 := HT0.out.2.cell 0
          have g1 := HT0.out.2.cell 1
          have g2 := HT0.out.2.cell 2
          have g3 := HT0.out.2.cell 3
          have g4 := HT0.out.2.cell 4
          have g5 := HT0.out.2.cell 5
          have g6 := HT0.out.2.cell 6
          clear hb1
          go_wp2
          go_ret
          exact ⟨by rw [HX.out]; rfl, HT0.out.1⟩
        · skip
          have e4 : decide ((8 : Int) < na) = false := decide_eq_false t4
          by_cases t5 : (39 : Int) < np
          · skip
            have e5 : decide ((39 : Int) < np) = true := by simpa using t5
            have HX := Lib.hid (show Gr.chk g = 4 from Gr.chk_big (by rw [HBig.out]; simp; omega))
            go_enter Try.func24, Try.ntmps24
            go_wp2_with fail
            refine (rOps_any Ai Aa Ab Ap Ah ni ci na ca nb cb np cp nh ch V K S g.blks _ (HBs.out.below GT0.out.1) b3' HF0.out.ops).mono ?_
            rintro e w1 ⟨rfl, hb1⟩
            have HT0 := Lib.hid (GT0.out.below hb1)
            have g0 := HT0.out.2.cell 0
            have g1 := HT0.out.2.cell 1
            have g2 := HT0.out.2.cell 2
            have g3 := HT0.out.2.cell 3
            have g4 := HT0.out.2.cell 4
            have g5 := HT0.out.2.cell 5
            have g6 := HT0.out.2.cell 6
            clear hb1
            go_wp2
            go_ret
            exact ⟨by rw [HX.out]; rfl, HT0.out.1⟩
          · skip
            have e5 : decide ((39 : Int) < np) = false := decide_eq_false t5
            have HSm := Lib.hid (show Gr.big g = false by rw [HBig.out]; simp; omega)
            by_cases t6 : (nb : Int) < 1
            · skip
              have e6 : decide ((nb : Int) < 1) = true := by simpa using t6
              have HBad := Lib.hid (show Gr.chk g = 10 from Gr.chk_no HSm.out (by rw [HRt.out, show decide (Gr.ends g.blks nb = 1) = false by have := Gr.ends_le g.blks nb; simp; omega]; simp))
              go_enter Try.func24, Try.ntmps24
              go_wp2_with fail
              refine (rOps_any Ai Aa Ab Ap Ah ni ci na ca nb cb np cp nh ch V K S g.blks _ (HBs.out.below GT0.out.1) b3' HF0.out.ops).mono ?_
              rintro e w1 ⟨rfl, hb1⟩
              have HT0 := Lib.hid (GT0.out.below hb1)
              have g0 := HT0.out.2.cell 0
              have g1 := HT0.out.2.cell 1
              have g2 := HT0.out.2.cell 2
              have g3 := HT0.out.2.cell 3
              have g4 := HT0.out.2.cell 4
              have g5 := HT0.out.2.cell 5
              have g6 := HT0.out.2.cell 6
              clear hb1
              go_wp2
              go_ret
              exact ⟨by rw [HBad.out]; rfl, HT0.out.1⟩
            · skip
              have e6 : decide ((nb : Int) < 1) = false := decide_eq_false t6
              by_cases t7 : V < 0
              · skip
                have e7 : decide (V < 0) = true := by simpa using t7
                have HBad := Lib.hid (show Gr.chk g = 10 from Gr.chk_no HSm.out (by rw [HRt.out, show Gr.datOk g = false by rw [HDat.out, show Gr.inn K (V + 1) = false by unfold Gr.inn; simp; omega]; simp]; simp))
                go_enter Try.func24, Try.ntmps24
                go_wp2_with fail
                refine (rOps_any Ai Aa Ab Ap Ah ni ci na ca nb cb np cp nh ch V K S g.blks _ (HBs.out.below GT0.out.1) b3' HF0.out.ops).mono ?_
                rintro e w1 ⟨rfl, hb1⟩
                have HT0 := Lib.hid (GT0.out.below hb1)
                have g0 := HT0.out.2.cell 0
                have g1 := HT0.out.2.cell 1
                have g2 := HT0.out.2.cell 2
                have g3 := HT0.out.2.cell 3
                have g4 := HT0.out.2.cell 4
                have g5 := HT0.out.2.cell 5
                have g6 := HT0.out.2.cell 6
                clear hb1
                go_wp2
                go_ret
                exact ⟨by rw [HBad.out]; rfl, HT0.out.1⟩
              · skip
                have e7 : decide (V < 0) = false := decide_eq_false t7
                by_cases t8 : K < 0
                · skip
                  have e8 : decide (K < 0) = true := by simpa using t8
                  have HBad := Lib.hid (show Gr.chk g = 10 from Gr.chk_no HSm.out (by rw [HRt.out, show Gr.datOk g = false by rw [HDat.out, show Gr.inn K (V + 1) = false by unfold Gr.inn; simp; omega]; simp]; simp))
                  go_enter Try.func24, Try.ntmps24
                  go_wp2_with fail
                  refine (rOps_any Ai Aa Ab Ap Ah ni ci na ca nb cb np cp nh ch V K S g.blks _ (HBs.out.below GT0.out.1) b3' HF0.out.ops).mono ?_
                  rintro e w1 ⟨rfl, hb1⟩
                  have HT0 := Lib.hid (GT0.out.below hb1)
                  have g0 := HT0.out.2.cell 0
                  have g1 := HT0.out.2.cell 1
                  have g2 := HT0.out.2.cell 2
                  have g3 := HT0.out.2.cell 3
                  have g4 := HT0.out.2.cell 4
                  have g5 := HT0.out.2.cell 5
                  have g6 := HT0.out.2.cell 6
                  clear hb1
                  go_wp2
                  go_ret
                  exact ⟨by rw [HBad.out]; rfl, HT0.out.1⟩
                · skip
                  have e8 : decide (K < 0) = false := decide_eq_false t8
                  by_cases t9 : V < K
                  · skip
                    have e9 : decide (V < K) = true := by simpa using t9
                    have HBad := Lib.hid (show Gr.chk g = 10 from Gr.chk_no HSm.out (by rw [HRt.out, show Gr.datOk g = false by rw [HDat.out, show Gr.inn K (V + 1) = false by unfold Gr.inn; simp; omega]; simp]; simp))
                    go_enter Try.func24, Try.ntmps24
                    go_wp2_with fail
                    refine (rOps_any Ai Aa Ab Ap Ah ni ci na ca nb cb np cp nh ch V K S g.blks _ (HBs.out.below GT0.out.1) b3' HF0.out.ops).mono ?_
                    rintro e w1 ⟨rfl, hb1⟩
                    have HT0 := Lib.hid (GT0.out.below hb1)
                    have g0 := HT0.out.2.cell 0
                    have g1 := HT0.out.2.cell 1
                    have g2 := HT0.out.2.cell 2
                    have g3 := HT0.out.2.cell 3
                    have g4 := HT0.out.2.cell 4
                    have g5 := HT0.out.2.cell 5
                    have g6 := HT0.out.2.cell 6
                    clear hb1
                    go_wp2
                    go_ret
                    exact ⟨by rw [HBad.out]; rfl, HT0.out.1⟩
                  · skip
                    have e9 : decide (V < K) = false := decide_eq_false t9
                    by_cases t10 : K < (ni : Int)
                    · skip
                      have e10 : decide (K < (ni : Int)) = true := by simpa using t10
                      have HBad := Lib.hid (show Gr.chk g = 10 from Gr.chk_no HSm.out (by rw [HRt.out, show Gr.datOk g = false by rw [HDat.out, show decide ((ni : Int) ≤ K) = false by simp; omega]; simp]; simp))
                      go_enter Try.func24, Try.ntmps24
                      go_wp2_with fail
                      refine (rOps_any Ai Aa Ab Ap Ah ni ci na ca nb cb np cp nh ch V K S g.blks _ (HBs.out.below GT0.out.1) b3' HF0.out.ops).mono ?_
                      rintro e w1 ⟨rfl, hb1⟩
                      have HT0 := Lib.hid (GT0.out.below hb1)
                      have g0 := HT0.out.2.cell 0
                      have g1 := HT0.out.2.cell 1
                      have g2 := HT0.out.2.cell 2
                      have g3 := HT0.out.2.cell 3
                      have g4 := HT0.out.2.cell 4
                      have g5 := HT0.out.2.cell 5
                      have g6 := HT0.out.2.cell 6
                      clear hb1
                      go_wp2
                      go_ret
                      exact ⟨by rw [HBad.out]; rfl, HT0.out.1⟩
                    · skip
                      have e10 : decide (K < (ni : Int)) = false := decide_eq_false t10
                      by_cases t11 : S < 0
                      · skip
                        have e11 : decide (S < 0) = true := by simpa using t11
                        have HBad := Lib.hid (show Gr.chk g = 10 from Gr.chk_no HSm.out (by rw [HRt.out, show Gr.datOk g = false by rw [HDat.out, show Gr.inn S (na + 1) = false by unfold Gr.inn; simp; omega]; simp]; simp))
                        go_enter Try.func24, Try.ntmps24
                        go_wp2_with fail
                        refine (rOps_any Ai Aa Ab Ap Ah ni ci na ca nb cb np cp nh ch V K S g.blks _ (HBs.out.below GT0.out.1) b3' HF0.out.ops).mono ?_
                        rintro e w1 ⟨rfl, hb1⟩
                        have HT0 := Lib.hid (GT0.out.below hb1)
                        have g0 := HT0.out.2.cell 0
                        have g1 := HT0.out.2.cell 1
                        have g2 := HT0.out.2.cell 2
                        have g3 := HT0.out.2.cell 3
                        have g4 := HT0.out.2.cell 4
                        have g5 := HT0.out.2.cell 5
                        have g6 := HT0.out.2.cell 6
                        clear hb1
                        go_wp2
                        go_ret
                        exact ⟨by rw [HBad.out]; rfl, HT0.out.1⟩
                      · skip
                        have e11 : decide (S < 0) = false := decide_eq_false t11
                        by_cases t12 : (na : Int) < S
                        · skip
                          have e12 : decide ((na : Int) < S) = true := by simpa using t12
                          have HBad := Lib.hid (show Gr.chk g = 10 from Gr.chk_no HSm.out (by rw [HRt.out, show Gr.datOk g = false by rw [HDat.out, show Gr.inn S (na + 1) = false by unfold Gr.inn; simp; omega]; simp]; simp))
                          go_enter Try.func24, Try.ntmps24
                          go_wp2_with fail
                          refine (rOps_any Ai Aa Ab Ap Ah ni ci na ca nb cb np cp nh ch V K S g.blks _ (HBs.out.below GT0.out.1) b3' HF0.out.ops).mono ?_
                          rintro e w1 ⟨rfl, hb1⟩
                          have HT0 := Lib.hid (GT0.out.below hb1)
                          have g0 := HT0.out.2.cell 0
                          have g1 := HT0.out.2.cell 1
                          have g2 := HT0.out.2.cell 2
                          have g3 := HT0.out.2.cell 3
                          have g4 := HT0.out.2.cell 4
                          have g5 := HT0.out.2.cell 5
                          have g6 := HT0.out.2.cell 6
                          clear hb1
                          go_wp2
                          go_ret
                          exact ⟨by rw [HBad.out]; rfl, HT0.out.1⟩
                        · skip
                          have e12 : decide ((na : Int) < S) = false := decide_eq_false t12
                          have HKV := Lib.hid (show Gr.inn K (V + 1) = true by unfold Gr.inn; simp; omega)
                          have HIK := Lib.hid (show decide ((ni : Int) ≤ K) = true by simp; omega)
                          have HSA := Lib.hid (show Gr.inn S (na + 1) = true by unfold Gr.inn; simp; omega)
                          go_enter Try.func24, Try.ntmps24
                          go_wp2_with fail
                          refine (rOps_any Ai Aa Ab Ap Ah ni ci na ca nb cb np cp nh ch V K S g.blks _ (HBs.out.below GT0.out.1) b3' HF0.out.ops).mono ?_
                          rintro e w1 ⟨rfl, hb1⟩
                          have HT0 := Lib.hid (GT0.out.below hb1)
                          have g0 := HT0.out.2.cell 0
                          have g1 := HT0.out.2.cell 1
                          have g2 := HT0.out.2.cell 2
                          have g3 := HT0.out.2.cell 3
                          have g4 := HT0.out.2.cell 4
                          have g5 := HT0.out.2.cell 5
                          have g6 := HT0.out.2.cell 6
                          clear hb1
                          go_wp2
                          clear g1 g2 g3 g4 g5 g6
                          clear e1 e2 e3 e4 e5 e6 e7 e8 e9 e10 e11 e12
                          go_loopw [3, 4] (fun i _ wr => ∃ k : Nat, k ≤ ni ∧ i = .int .i64 k ∧ Hid (Gq w #[.slice Ai ni ci, .int .i64 V, .int .i64 K, .slice Aa na ca, .int .i64 S, .slice Ab nb cb, .slice Ap np cp, .slice Ah nh ch] wr) ∧ Hid (∀ j, j < k → Gr.inOk (g.ins.getD j Gr.in0) = true)) (fun i _ _ => ni - (intOf i).toNat)
                          case atStart => exact ⟨0, Nat.zero_le _, rfl, HT0, Lib.hid fun j hj => absurd hj (Nat.not_lt_zero _)⟩
                          case round =>
                            obtain ⟨k, hk, rfl, HT, HF⟩ := hrel
                            have g0 := HT.out.2.cell 0
                            by_cases hlt : k < ni
                            · have hlt' : (k : Int) < ni := by omega
                              have hlt0 : (0 : Int) ≤ (k : Int) := by omega
                              obtain ⟨bb, off, rfl, hbb, hx0, hx1, hx2⟩ := HIn.out k hlt
                              replace hx0 := (HT.out.1.cell (p := ⟨bb, off + k * 3, none⟩) hbb).trans hx0
                              replace hx1 := (HT.out.1.cell (p := ⟨bb, off + k * 3 + 1, none⟩) hbb).trans hx1
                              replace hx2 := (HT.out.1.cell (p := ⟨bb, off + k * 3 + 2, none⟩) hbb).trans hx2
                              have HBadAt := Lib.hid (show Gr.inOk (g.ins.getD k Gr.in0) = false → Gr.chk g = 10 from fun h => Gr.chk_no HSm.out (by rw [HRt.out, show Gr.datOk g = false by rw [HDat.out, show Gr.insOk g.ins = false from all_false (by rw [HNi.out]; exact hlt) h]; simp]; simp))
                              have HAt := Lib.hid (show Gr.inOk (g.ins.getD k Gr.in0) = (Gr.isW (g.ins.getD k Gr.in0).2.1 && Gr.isW (g.ins.getD k Gr.in0).2.2 && decide ((g.ins.getD k Gr.in0).2.1 ≤ (g.ins.getD k Gr.in0).2.2)) from rfl)
                              generalize (g.ins.getD k Gr.in0).1 = s at *
                              obtain ⟨x, hx⟩ : ∃ x, (g.ins.getD k Gr.in0).2.1 = x := ⟨_, rfl⟩
                              obtain ⟨y, hy⟩ : ∃ x, (g.ins.getD k Gr.in0).2.2 = x := ⟨_, rfl⟩
                              rw [hx] at hx1 HAt
                              rw [hy] at hx2 HAt
                              clear hx hy
                              have HW := Lib.hid (HT.out.below (bla (Below.refl wr.heap.size wr) (.cells #[.string s, .int .i64 x, .int .i64 y] 57)))
                              by_cases h1 : y < x
                              · have HBad := Lib.hid (HBadAt.out (by rw [HAt.out, decide_eq_false (show ¬ x ≤ y by omega)]; simp))
                                go_wp2
                                go_ret
                                exact ⟨by rw [HBad.out]; rfl, HW.out.1⟩
                              · have e1 : decide (y < x) = false := by simp; omega
                                cases h2 : Gr.isW x
                                · have H2 := Lib.hid h2
                                  have HBad := Lib.hid (HBadAt.out (by rw [HAt.out, H2.out]; rfl))
                                  clear h2
                                  go_wp2_with fail
                                  refine (rword_any x _ H2.out _).mono ?_
                                  rintro e w' ⟨rfl, rfl⟩
                                  go_wp2
                                  go_ret
                                  exact ⟨by rw [HBad.out]; rfl, HW.out.1⟩
                                · have H2 := Lib.hid h2
                                  clear h2
                                  cases h3 : Gr.isW y
                                  · have H3 := Lib.hid h3
                                    have HBad := Lib.hid (HBadAt.out (by rw [HAt.out, H3.out]; simp))
                                    clear h3
                                    go_wp2_with fail
                                    refine (rword_any x _ H2.out _).mono ?_
                                    rintro e w' ⟨rfl, rfl⟩
                                    go_wp2_with fail
                                    refine (rword_any y _ H3.out _).mono ?_
                                    rintro e w' ⟨rfl, rfl⟩
                                    go_wp2
                                    go_ret
                                    exact ⟨by rw [HBad.out]; rfl, HW.out.1⟩
                                  · have H3 := Lib.hid h3
                                    have HX := Lib.hid (show Gr.inOk (g.ins.getD k Gr.in0) = true by rw [HAt.out, H2.out, H3.out]; simp; omega)
                                    clear h3
                                    go_wp2_with fail
                                    refine (rword_any x _ H2.out _).mono ?_
                                    rintro e w' ⟨rfl, rfl⟩
                                    go_wp2_with fail
                                    refine (rword_any y _ H3.out _).mono ?_
                                    rintro e w' ⟨rfl, rfl⟩
                                    go_wp2
                                    go_roundw
                                    case rel => exact ⟨k + 1, by omega, by first | rfl | go_num, HW, Lib.hid fun j hj => by rcases Nat.lt_succ_iff_lt_or_eq.1 hj with h | rfl; exact HF.out j h; exact HX.out⟩
                                    case measure => simp [intOf]; omega
                            · have hlt' : ¬ (k : Int) < ni := by omega
                              obtain rfl : ni = k := by omega
                              have HIns := Lib.hid (show Gr.insOk g.ins = true from all_true fun j hj => HF.out j (by rw [← HNi.out]; exact hj))
                              clear HF HIn
                              have g3 := HT.out.2.cell 3
                              go_wp2
                              clear g3 g0
                              go_loopw [5] (fun i wr => ∃ k : Nat, k ≤ na ∧ i = .int .i64 k ∧ Hid (Gq w #[.slice Ai ni ci, .int .i64 V, .int .i64 K, .slice Aa na ca, .int .i64 S, .slice Ab nb cb, .slice Ap np cp, .slice Ah nh ch] wr) ∧ Hid (∀ j, j < k → Gr.arOk (g.ars.getD j Gr.ar0) = true)) (fun i _ => na - (intOf i).toNat)
                              case atStart => exact ⟨0, Nat.zero_le _, rfl, HT, Lib.hid fun j hj => absurd hj (Nat.not_lt_zero _)⟩
                              case round =>
                                clear HT
                                obtain ⟨k, hk, rfl, HT, HF⟩ := hrel
                                have g3 := HT.out.2.cell 3
                                by_cases hlt : k < na
                                · have hlt' : (k : Int) < na := by omega
                                  have hlt0 : (0 : Int) ≤ (k : Int) := by omega
                                  obtain ⟨bb, off, rfl, hbb, hx0, hx1⟩ := HAr.out k hlt
                                  replace hx1 := (HT.out.1.cell (p := ⟨bb, off + k * 2 + 1, none⟩) hbb).trans hx1
                                  clear hx0
                                  have HBadAt := Lib.hid (show Gr.arOk (g.ars.getD k Gr.ar0) = false → Gr.chk g = 10 from fun h => Gr.chk_no HSm.out (by rw [HRt.out, show Gr.datOk g = false by rw [HDat.out, show Gr.arsOk g.ars = false from all_false (by rw [HNa.out]; exact hlt) h]; simp]; simp))
                                  cases h1 : Gr.arOk (g.ars.getD k Gr.ar0)
                                  · have H1 := Lib.hid h1
                                    have HBad := Lib.hid (HBadAt.out H1.out)
                                    clear h1
                                    go_wp2_with fail
                                    refine (rsize_any _ _ H1.out _).mono ?_
                                    rintro e w' ⟨rfl, rfl⟩
                                    go_wp2
                                    go_ret
                                    exact ⟨by rw [HBad.out]; rfl, HT.out.1⟩
                                  · have HX := Lib.hid h1
                                    clear h1
                                    go_wp2_with fail
                                    refine (rsize_any _ _ HX.out _).mono ?_
                                    rintro e w' ⟨rfl, rfl⟩
                                    go_wp2
                                    go_roundw
                                    case rel => exact ⟨k + 1, by omega, by first | rfl | go_num, HT, Lib.hid fun j hj => by rcases Nat.lt_succ_iff_lt_or_eq.1 hj with h | rfl; exact HF.out j h; exact HX.out⟩
                                    case measure => simp [intOf]; omega
                                · have hlt' : ¬ (k : Int) < na := by omega
                                  obtain rfl : na = k := by omega
                                  have HArs := Lib.hid (show Gr.arsOk g.ars = true from all_true fun j hj => HF.out j (by rw [← HNa.out]; exact hj))
                                  have HD := Lib.hid (show Gr.datOk g = true by rw [HDat.out, HKV.out, HIK.out, HSA.out, HIns.out, HArs.out]; rfl)
                                  clear HF HAr
                                  have g5 := HT.out.2.cell 5
                                  go_wp2
                                  clear g5 g3
                                  go_loopw [6, 7] (fun t i wr => ∃ k : Nat, k ≤ nb ∧ i = .int .i64 k ∧ t = .int .i64 (Gr.ends g.blks k) ∧ Hid (Gq w #[.slice Ai ni ci, .int .i64 V, .int .i64 K, .slice Aa na ca, .int .i64 S, .slice Ab nb cb, .slice Ap np cp, .slice Ah nh ch] wr) ∧ Hid (∀ j, j < k → Gr.blkOk V na nb (g.blks.getD j Gr.blk0) = true)) (fun _ i _ => nb - (intOf i).toNat)
                                  case atStart => exact ⟨0, Nat.zero_le _, rfl, rfl, HT, Lib.hid fun j hj => absurd hj (Nat.not_lt_zero _)⟩
                                  case round =>
                                    clear HT
                                    obtain ⟨k, hk, rfl, rfl, HT, HF⟩ := hrel
                                    have g5 := HT.out.2.cell 5
                                    by_cases hlt : k < nb
                                    · have hlt' : (k : Int) < nb := by omega
                                      have hlt0 : (0 : Int) ≤ (k : Int) := by omega
                                      obtain ⟨bb, off, rfl, hbb, hx0, hx1, hx2, ho, hn⟩ := HBl.out k hlt
                                      have HLn := Lib.hid (show (g.blks.getD k Gr.blk0).ops.length ≤ maxLen ∧ (g.blks.getD k Gr.blk0).next.length ≤ maxLen from by
                                        have := HF0.out.ops _ (mem_getD (d := Gr.blk0) (show k < g.blks.length by rw [HNb.out]; exact hlt))
                                        exact ⟨Gr.le_max this.1, Gr.le_max this.2⟩)
                                      have HBadAt := Lib.hid (show Gr.blkOk V na nb (g.blks.getD k Gr.blk0) = false → Gr.chk g = 10 from fun h => Gr.chk_no HSm.out (by rw [HRt.out, show Gr.blksOk V na nb g.blks = false from all_false (by rw [HNb.out]; exact hlt) h]; simp))
                                      have HEn := Lib.hid (show Gr.ends g.blks (k + 1) = Gr.ends g.blks k + if (g.blks.getD k Gr.blk0).next.length = 0 then 1 else 0 from rfl)
                                      have hel := Gr.ends_le g.blks k
                                      go_upto_region 20 with fail
                                      cases h1 : Gr.blkOk V na nb (g.blks.getD k Gr.blk0)
                                      · have H1 := Lib.hid h1
                                        have HBad := Lib.hid (HBadAt.out H1.out)
                                        clear h1
                                        refine wp_region_held_drew (S := (fun u => Gq w #[.slice Ai ni ci, .int .i64 V, .int .i64 K, .slice Aa na ca, .int .i64 S, .slice (some ⟨bb, off, none⟩) nb cb, .slice Ap np cp, .slice Ah nh ch] u)) (by kernel_rfl) (by exact HT.out.below (below_drewN _ _ 1)) (fun hHeld => ?_)
                                        refine' wpAnyH_take (i := 0) (v := _) ?_ ?_ ?_ ?_ ?_ ?_ ?_ ?_
                                        rotate_left 2
                                        focus (simp only [List.getElem?_toArray, List.getElem?_cons_succ, List.getElem?_cons_zero]; rfl)
                                        focus kernel_rfl
                                        focus kernel_rfl
                                        focus kernel_rfl
                                        focus exact (fun _ _ _ h => h)
                                        refine Or.inl ⟨?_, ?_⟩
                                        focus (go_simp; done)
                                        focus (intro w hSw; obtain ⟨hSb, hSg⟩ := hSw; have g0 := hSg.cell 0; have g1 := hSg.cell 1; have g2 := hSg.cell 2; have g3 := hSg.cell 3; have g4 := hSg.cell 4; have g5 := hSg.cell 5; have g6 := hSg.cell 6; have g7 := hSg.cell 7; have x0 := (hSb.cell (p := ⟨bb, off + k * 3, none⟩) hbb).trans hx0; have x1 := (hSb.cell (p := ⟨bb, off + k * 3 + 1, none⟩) hbb).trans hx1; have x2 := (hSb.cell (p := ⟨bb, off + k * 3 + 2, none⟩) hbb).trans hx2; (first | (go_simp; done) | (go_simp; with_reducible rfl)))
                                        focus assumption
                                        (try simp only [Act.put, List.setIfInBounds_toArray, List.set_cons_zero, List.set_cons_succ])
                                        refine' wpAnyH_take (i := 1) (v := _) ?_ ?_ ?_ ?_ ?_ ?_ ?_ ?_
                                        rotate_left 2
                                        focus (simp only [List.getElem?_toArray, List.getElem?_cons_succ, List.getElem?_cons_zero]; rfl)
                                        focus kernel_rfl
                                        focus kernel_rfl
                                        focus kernel_rfl
                                        focus exact (fun _ _ _ h => h)
                                        refine Or.inl ⟨?_, ?_⟩
                                        focus (go_simp; done)
                                        focus (intro w hSw; obtain ⟨hSb, hSg⟩ := hSw; have g0 := hSg.cell 0; have g1 := hSg.cell 1; have g2 := hSg.cell 2; have g3 := hSg.cell 3; have g4 := hSg.cell 4; have g5 := hSg.cell 5; have g6 := hSg.cell 6; have g7 := hSg.cell 7; have x0 := (hSb.cell (p := ⟨bb, off + k * 3, none⟩) hbb).trans hx0; have x1 := (hSb.cell (p := ⟨bb, off + k * 3 + 1, none⟩) hbb).trans hx1; have x2 := (hSb.cell (p := ⟨bb, off + k * 3 + 2, none⟩) hbb).trans hx2; (first | (go_simp; done) | (go_simp; with_reducible rfl)))
                                        focus assumption
                                        (try simp only [Act.put, List.setIfInBounds_toArray, List.set_cons_zero, List.set_cons_succ])
                                        refine' wpAnyH_take (i := 2) (v := _) ?_ ?_ ?_ ?_ ?_ ?_ ?_ ?_
                                        rotate_left 2
                                        focus (simp only [List.getElem?_toArray, List.getElem?_cons_succ, List.getElem?_cons_zero]; rfl)
                                        focus kernel_rfl
                                        focus kernel_rfl
                                        focus kernel_rfl
                                        focus exact (fun _ _ _ h => h)
                                        refine Or.inl ⟨?_, ?_⟩
                                        focus (go_simp; done)
                                        focus (intro w hSw; obtain ⟨hSb, hSg⟩ := hSw; have g0 := hSg.cell 0; have g1 := hSg.cell 1; have g2 := hSg.cell 2; have g3 := hSg.cell 3; have g4 := hSg.cell 4; have g5 := hSg.cell 5; have g6 := hSg.cell 6; have g7 := hSg.cell 7; have x0 := (hSb.cell (p := ⟨bb, off + k * 3, none⟩) hbb).trans hx0; have x1 := (hSb.cell (p := ⟨bb, off + k * 3 + 1, none⟩) hbb).trans hx1; have x2 := (hSb.cell (p := ⟨bb, off + k * 3 + 2, none⟩) hbb).trans hx2; (first | (go_simp; done) | (go_simp; with_reducible rfl)))
                                        focus assumption
                                        (try simp only [Act.put, List.setIfInBounds_toArray, List.set_cons_zero, List.set_cons_succ])
                                        refine' wpAnyH_take (i := 3) (v := _) ?_ ?_ ?_ ?_ ?_ ?_ ?_ ?_
                                        rotate_left 2
                                        focus (simp only [List.getElem?_toArray, List.getElem?_cons_succ, List.getElem?_cons_zero]; rfl)
                                        focus kernel_rfl
                                        focus kernel_rfl
                                        focus kernel_rfl
                                        focus exact (fun _ _ _ h => h)
                                        refine Or.inl ⟨?_, ?_⟩
                                        focus (go_simp; done)
                                        focus (intro w hSw; obtain ⟨hSb, hSg⟩ := hSw; have g0 := hSg.cell 0; have g1 := hSg.cell 1; have g2 := hSg.cell 2; have g3 := hSg.cell 3; have g4 := hSg.cell 4; have g5 := hSg.cell 5; have g6 := hSg.cell 6; have g7 := hSg.cell 7; have x0 := (hSb.cell (p := ⟨bb, off + k * 3, none⟩) hbb).trans hx0; have x1 := (hSb.cell (p := ⟨bb, off + k * 3 + 1, none⟩) hbb).trans hx1; have x2 := (hSb.cell (p := ⟨bb, off + k * 3 + 2, none⟩) hbb).trans hx2; (first | (go_simp; done) | (go_simp; with_reducible rfl)))
                                        focus assumption
                                        (try simp only [Act.put, List.setIfInBounds_toArray, List.set_cons_zero, List.set_cons_succ])
                                        refine' wpAnyH_take (i := 4) (v := _) ?_ ?_ ?_ ?_ ?_ ?_ ?_ ?_
                                        rotate_left 2
                                        focus (simp only [List.getElem?_toArray, List.getElem?_cons_succ, List.getElem?_cons_zero]; rfl)
                                        focus kernel_rfl
                                        focus kernel_rfl
                                        focus kernel_rfl
                                        focus exact (fun _ _ _ h => h)
                                        refine Or.inl ⟨?_, ?_⟩
                                        focus (go_simp; done)
                                        focus (intro w hSw; obtain ⟨hSb, hSg⟩ := hSw; have g0 := hSg.cell 0; have g1 := hSg.cell 1; have g2 := hSg.cell 2; have g3 := hSg.cell 3; have g4 := hSg.cell 4; have g5 := hSg.cell 5; have g6 := hSg.cell 6; have g7 := hSg.cell 7; have x0 := (hSb.cell (p := ⟨bb, off + k * 3, none⟩) hbb).trans hx0; have x1 := (hSb.cell (p := ⟨bb, off + k * 3 + 1, none⟩) hbb).trans hx1; have x2 := (hSb.cell (p := ⟨bb, off + k * 3 + 2, none⟩) hbb).trans hx2; (first | (go_simp; done) | (go_simp; with_reducible rfl)))
                                        focus assumption
                                        (try simp only [Act.put, List.setIfInBounds_toArray, List.set_cons_zero, List.set_cons_succ])
                                        refine' wpAnyH_take (i := 5) (v := _) ?_ ?_ ?_ ?_ ?_ ?_ ?_ ?_
                                        rotate_left 2
                                        focus (simp only [List.getElem?_toArray, List.getElem?_cons_succ, List.getElem?_cons_zero]; rfl)
                                        focus kernel_rfl
                                        focus kernel_rfl
                                        focus kernel_rfl
                                        focus exact (fun _ _ _ h => h)
                                        refine Or.inl ⟨?_, ?_⟩
                                        focus (go_simp; done)
                                        focus (intro w hSw; obtain ⟨hSb, hSg⟩ := hSw; have g0 := hSg.cell 0; have g1 := hSg.cell 1; have g2 := hSg.cell 2; have g3 := hSg.cell 3; have g4 := hSg.cell 4; have g5 := hSg.cell 5; have g6 := hSg.cell 6; have g7 := hSg.cell 7; have x0 := (hSb.cell (p := ⟨bb, off + k * 3, none⟩) hbb).trans hx0; have x1 := (hSb.cell (p := ⟨bb, off + k * 3 + 1, none⟩) hbb).trans hx1; have x2 := (hSb.cell (p := ⟨bb, off + k * 3 + 2, none⟩) hbb).trans hx2; (first | (go_simp; done) | (go_simp; with_reducible rfl)))
                                        focus assumption
                                        (try simp only [Act.put, List.setIfInBounds_toArray, List.set_cons_zero, List.set_cons_succ])
                                        refine wpAnyH_ready (rs := [6]) (by kernel_rfl) (by simp) ?_
                                        refine' AllReadyH.cons ?_ (fun K hK => ?_) AllReadyH.nil
                                        rotate_left
                                        focus (simp only [List.getElem?_toArray, List.getElem?_cons_succ, List.getElem?_cons_zero]; rfl)
                                        go_simp
                                        (go_at_call 48; refine (rblk_any _ _ _ _ _ _ _ _ _ _ _ _ _ _ _ _ _ _ (Gr.le_max b2) (Gr.le_max b3) (g.blks.getD k Gr.blk0) _ _ _ H1.out _ (ho.below hHeld.1) (hn.below hHeld.1) HLn.out).mono ?_; rintro e w4 ⟨rfl, hb⟩)
                                        refine hK.out _ _ (hHeld.below hb) (fun hHeld => ?_)
                                        clear hK K
                                        (try simp only [Act.put, List.setIfInBounds_toArray, List.set_cons_zero, List.set_cons_succ])
                                        clear hb
                                        refine' wpAnyH_take (i := 7) (v := _) ?_ ?_ ?_ ?_ ?_ ?_ ?_ ?_
                                        rotate_left 2
                                        focus (simp only [List.getElem?_toArray, List.getElem?_cons_succ, List.getElem?_cons_zero]; rfl)
                                        focus kernel_rfl
                                        focus kernel_rfl
                                        focus kernel_rfl
                                        focus exact (fun _ _ _ h => h)
                                        refine Or.inl ⟨?_, ?_⟩
                                        focus (go_simp; done)
                                        focus (intro w hSw; obtain ⟨hSb, hSg⟩ := hSw; have g0 := hSg.cell 0; have g1 := hSg.cell 1; have g2 := hSg.cell 2; have g3 := hSg.cell 3; have g4 := hSg.cell 4; have g5 := hSg.cell 5; have g6 := hSg.cell 6; have g7 := hSg.cell 7; have x0 := (hSb.cell (p := ⟨bb, off + k * 3, none⟩) hbb).trans hx0; have x1 := (hSb.cell (p := ⟨bb, off + k * 3 + 1, none⟩) hbb).trans hx1; have x2 := (hSb.cell (p := ⟨bb, off + k * 3 + 2, none⟩) hbb).trans hx2; (first | (go_simp; done) | (go_simp; with_reducible rfl)))
                                        focus assumption
                                        (try simp only [Act.put, List.setIfInBounds_toArray, List.set_cons_zero, List.set_cons_succ])
                                        refine wpAnyH_done (by kernel_rfl) ?_ _
                                        go_wp2
                                        go_ret
                                        exact ⟨by rw [HBad.out]; rfl, hHeld.1⟩
                                      · have H1 := Lib.hid h1
                                        clear h1
                                        refine wp_region_held_drew (S := (fun u => Gq w #[.slice Ai ni ci, .int .i64 V, .int .i64 K, .slice Aa na ca, .int .i64 S, .slice (some ⟨bb, off, none⟩) nb cb, .slice Ap np cp, .slice Ah nh ch] u)) (by kernel_rfl) (by exact HT.out.below (below_drewN _ _ 1)) (fun hHeld => ?_)
                                        refine' wpAnyH_take (i := 0) (v := _) ?_ ?_ ?_ ?_ ?_ ?_ ?_ ?_
                                        rotate_left 2
                                        focus (simp only [List.getElem?_toArray, List.getElem?_cons_succ, List.getElem?_cons_zero]; rfl)
                                        focus kernel_rfl
                                        focus kernel_rfl
                                        focus kernel_rfl
                                        focus exact (fun _ _ _ h => h)
                                        refine Or.inl ⟨?_, ?_⟩
                                        focus (go_simp; done)
                                        focus (intro w hSw; obtain ⟨hSb, hSg⟩ := hSw; have g0 := hSg.cell 0; have g1 := hSg.cell 1; have g2 := hSg.cell 2; have g3 := hSg.cell 3; have g4 := hSg.cell 4; have g5 := hSg.cell 5; have g6 := hSg.cell 6; have g7 := hSg.cell 7; have x0 := (hSb.cell (p := ⟨bb, off + k * 3, none⟩) hbb).trans hx0; have x1 := (hSb.cell (p := ⟨bb, off + k * 3 + 1, none⟩) hbb).trans hx1; have x2 := (hSb.cell (p := ⟨bb, off + k * 3 + 2, none⟩) hbb).trans hx2; (first | (go_simp; done) | (go_simp; with_reducible rfl)))
                                        focus assumption
                                        (try simp only [Act.put, List.setIfInBounds_toArray, List.set_cons_zero, List.set_cons_succ])
                                        refine' wpAnyH_take (i := 1) (v := _) ?_ ?_ ?_ ?_ ?_ ?_ ?_ ?_
                                        rotate_left 2
                                        focus (simp only [List.getElem?_toArray, List.getElem?_cons_succ, List.getElem?_cons_zero]; rfl)
                                        focus kernel_rfl
                                        focus kernel_rfl
                                        focus kernel_rfl
                                        focus exact (fun _ _ _ h => h)
                                        refine Or.inl ⟨?_, ?_⟩
                                        focus (go_simp; done)
                                        focus (intro w hSw; obtain ⟨hSb, hSg⟩ := hSw; have g0 := hSg.cell 0; have g1 := hSg.cell 1; have g2 := hSg.cell 2; have g3 := hSg.cell 3; have g4 := hSg.cell 4; have g5 := hSg.cell 5; have g6 := hSg.cell 6; have g7 := hSg.cell 7; have x0 := (hSb.cell (p := ⟨bb, off + k * 3, none⟩) hbb).trans hx0; have x1 := (hSb.cell (p := ⟨bb, off + k * 3 + 1, none⟩) hbb).trans hx1; have x2 := (hSb.cell (p := ⟨bb, off + k * 3 + 2, none⟩) hbb).trans hx2; (first | (go_simp; done) | (go_simp; with_reducible rfl)))
                                        focus assumption
                                        (try simp only [Act.put, List.setIfInBounds_toArray, List.set_cons_zero, List.set_cons_succ])
                                        refine' wpAnyH_take (i := 2) (v := _) ?_ ?_ ?_ ?_ ?_ ?_ ?_ ?_
                                        rotate_left 2
                                        focus (simp only [List.getElem?_toArray, List.getElem?_cons_succ, List.getElem?_cons_zero]; rfl)
                                        focus kernel_rfl
                                        focus kernel_rfl
                                        focus kernel_rfl
                                        focus exact (fun _ _ _ h => h)
                                        refine Or.inl ⟨?_, ?_⟩
                                        focus (go_simp; done)
                                        focus (intro w hSw; obtain ⟨hSb, hSg⟩ := hSw; have g0 := hSg.cell 0; have g1 := hSg.cell 1; have g2 := hSg.cell 2; have g3 := hSg.cell 3; have g4 := hSg.cell 4; have g5 := hSg.cell 5; have g6 := hSg.cell 6; have g7 := hSg.cell 7; have x0 := (hSb.cell (p := ⟨bb, off + k * 3, none⟩) hbb).trans hx0; have x1 := (hSb.cell (p := ⟨bb, off + k * 3 + 1, none⟩) hbb).trans hx1; have x2 := (hSb.cell (p := ⟨bb, off + k * 3 + 2, none⟩) hbb).trans hx2; (first | (go_simp; done) | (go_simp; with_reducible rfl)))
                                        focus assumption
                                        (try simp only [Act.put, List.setIfInBounds_toArray, List.set_cons_zero, List.set_cons_succ])
                                        refine' wpAnyH_take (i := 3) (v := _) ?_ ?_ ?_ ?_ ?_ ?_ ?_ ?_
                                        rotate_left 2
                                        focus (simp only [List.getElem?_toArray, List.getElem?_cons_succ, List.getElem?_cons_zero]; rfl)
                                        focus kernel_rfl
                                        focus kernel_rfl
                                        focus kernel_rfl
                                        focus exact (fun _ _ _ h => h)
                                        refine Or.inl ⟨?_, ?_⟩
                                        focus (go_simp; done)
                                        focus (intro w hSw; obtain ⟨hSb, hSg⟩ := hSw; have g0 := hSg.cell 0; have g1 := hSg.cell 1; have g2 := hSg.cell 2; have g3 := hSg.cell 3; have g4 := hSg.cell 4; have g5 := hSg.cell 5; have g6 := hSg.cell 6; have g7 := hSg.cell 7; have x0 := (hSb.cell (p := ⟨bb, off + k * 3, none⟩) hbb).trans hx0; have x1 := (hSb.cell (p := ⟨bb, off + k * 3 + 1, none⟩) hbb).trans hx1; have x2 := (hSb.cell (p := ⟨bb, off + k * 3 + 2, none⟩) hbb).trans hx2; (first | (go_simp; done) | (go_simp; with_reducible rfl)))
                                        focus assumption
                                        (try simp only [Act.put, List.setIfInBounds_toArray, List.set_cons_zero, List.set_cons_succ])
                                        refine' wpAnyH_take (i := 4) (v := _) ?_ ?_ ?_ ?_ ?_ ?_ ?_ ?_
                                        rotate_left 2
                                        focus (simp only [List.getElem?_toArray, List.getElem?_cons_succ, List.getElem?_cons_zero]; rfl)
                                        focus kernel_rfl
                                        focus kernel_rfl
                                        focus kernel_rfl
                                        focus exact (fun _ _ _ h => h)
                                        refine Or.inl ⟨?_, ?_⟩
                                        focus (go_simp; done)
                                        focus (intro w hSw; obtain ⟨hSb, hSg⟩ := hSw; have g0 := hSg.cell 0; have g1 := hSg.cell 1; have g2 := hSg.cell 2; have g3 := hSg.cell 3; have g4 := hSg.cell 4; have g5 := hSg.cell 5; have g6 := hSg.cell 6; have g7 := hSg.cell 7; have x0 := (hSb.cell (p := ⟨bb, off + k * 3, none⟩) hbb).trans hx0; have x1 := (hSb.cell (p := ⟨bb, off + k * 3 + 1, none⟩) hbb).trans hx1; have x2 := (hSb.cell (p := ⟨bb, off + k * 3 + 2, none⟩) hbb).trans hx2; (first | (go_simp; done) | (go_simp; with_reducible rfl)))
                                        focus assumption
                                        (try simp only [Act.put, List.setIfInBounds_toArray, List.set_cons_zero, List.set_cons_succ])
                                        refine' wpAnyH_take (i := 5) (v := _) ?_ ?_ ?_ ?_ ?_ ?_ ?_ ?_
                                        rotate_left 2
                                        focus (simp only [List.getElem?_toArray, List.getElem?_cons_succ, List.getElem?_cons_zero]; rfl)
                                        focus kernel_rfl
                                        focus kernel_rfl
                                        focus kernel_rfl
                                        focus exact (fun _ _ _ h => h)
                                        refine Or.inl ⟨?_, ?_⟩
                                        focus (go_simp; done)
                                        focus (intro w hSw; obtain ⟨hSb, hSg⟩ := hSw; have g0 := hSg.cell 0; have g1 := hSg.cell 1; have g2 := hSg.cell 2; have g3 := hSg.cell 3; have g4 := hSg.cell 4; have g5 := hSg.cell 5; have g6 := hSg.cell 6; have g7 := hSg.cell 7; have x0 := (hSb.cell (p := ⟨bb, off + k * 3, none⟩) hbb).trans hx0; have x1 := (hSb.cell (p := ⟨bb, off + k * 3 + 1, none⟩) hbb).trans hx1; have x2 := (hSb.cell (p := ⟨bb, off + k * 3 + 2, none⟩) hbb).trans hx2; (first | (go_simp; done) | (go_simp; with_reducible rfl)))
                                        focus assumption
                                        (try simp only [Act.put, List.setIfInBounds_toArray, List.set_cons_zero, List.set_cons_succ])
                                        refine wpAnyH_ready (rs := [6]) (by kernel_rfl) (by simp) ?_
                                        refine' AllReadyH.cons ?_ (fun K hK => ?_) AllReadyH.nil
                                        rotate_left
                                        focus (simp only [List.getElem?_toArray, List.getElem?_cons_succ, List.getElem?_cons_zero]; rfl)
                                        go_simp
                                        (go_at_call 48; refine (rblk_any _ _ _ _ _ _ _ _ _ _ _ _ _ _ _ _ _ _ (Gr.le_max b2) (Gr.le_max b3) (g.blks.getD k Gr.blk0) _ _ _ H1.out _ (ho.below hHeld.1) (hn.below hHeld.1) HLn.out).mono ?_; rintro e w4 ⟨rfl, hb⟩)
                                        refine hK.out _ _ (hHeld.below hb) (fun hHeld => ?_)
                                        clear hK K
                                        (try simp only [Act.put, List.setIfInBounds_toArray, List.set_cons_zero, List.set_cons_succ])
                                        clear hb
                                        refine' wpAnyH_take (i := 7) (v := _) ?_ ?_ ?_ ?_ ?_ ?_ ?_ ?_
                                        rotate_left 2
                                        focus (simp only [List.getElem?_toArray, List.getElem?_cons_succ, List.getElem?_cons_zero]; rfl)
                                        focus kernel_rfl
                                        focus kernel_rfl
                                        focus kernel_rfl
                                        focus exact (fun _ _ _ h => h)
                                        refine Or.inl ⟨?_, ?_⟩
                                        focus (go_simp; done)
                                        focus (intro w hSw; obtain ⟨hSb, hSg⟩ := hSw; have g0 := hSg.cell 0; have g1 := hSg.cell 1; have g2 := hSg.cell 2; have g3 := hSg.cell 3; have g4 := hSg.cell 4; have g5 := hSg.cell 5; have g6 := hSg.cell 6; have g7 := hSg.cell 7; have x0 := (hSb.cell (p := ⟨bb, off + k * 3, none⟩) hbb).trans hx0; have x1 := (hSb.cell (p := ⟨bb, off + k * 3 + 1, none⟩) hbb).trans hx1; have x2 := (hSb.cell (p := ⟨bb, off + k * 3 + 2, none⟩) hbb).trans hx2; (first | (go_simp; done) | (go_simp; with_reducible rfl)))
                                        focus assumption
                                        (try simp only [Act.put, List.setIfInBounds_toArray, List.set_cons_zero, List.set_cons_succ])
                                        refine wpAnyH_done (by kernel_rfl) ?_ _
                                        have g5 := hHeld.2.cell 5
                                        have x2 := (hHeld.1.cell (p := ⟨bb, off + k * 3 + 2, none⟩) hbb).trans hx2
                                        clear ho hn hx0 hx1 hx2
                                        by_cases hz : (g.blks.getD k Gr.blk0).next.length = 0
                                        · have HE2 := Lib.hid (show Gr.ends g.blks (k + 1) = Gr.ends g.blks k + 1 by rw [HEn.out, if_pos hz])
                                          rw [hz] at x2
                                          clear hz HEn
                                          generalize Gr.ends g.blks k = en at *
                                          go_wp2
                                          go_roundw
                                          case rel => exact ⟨k + 1, by omega, by first | rfl | go_num, by rw [HE2.out]; first | rfl | go_num, Lib.hid hHeld, Lib.hid fun j hj => by rcases Nat.lt_succ_iff_lt_or_eq.1 hj with h | rfl; exact HF.out j h; exact H1.out⟩
                                          case measure => simp [intOf]; omega
                                        · have HE2 := Lib.hid (show Gr.ends g.blks (k + 1) = Gr.ends g.blks k by rw [HEn.out, if_neg hz]; rfl)
                                          generalize hnx : (g.blks.getD k Gr.blk0).next.length = nx at x2 hz
                                          have ez : ((nx : Int) == 0) = false := by simp; omega
                                          clear hz HEn hnx
                                          generalize Gr.ends g.blks k = en at *
                                          go_wp2
                                          go_roundw
                                          case rel => exact ⟨k + 1, by omega, by first | rfl | go_num, by rw [HE2.out], Lib.hid hHeld, Lib.hid fun j hj => by rcases Nat.lt_succ_iff_lt_or_eq.1 hj with h | rfl; exact HF.out j h; exact H1.out⟩
                                          case measure => simp [intOf]; omega
                                    · have hlt' : ¬ (k : Int) < nb := by omega
                                      obtain rfl : nb = k := by omega
                                      have HBk := Lib.hid (show Gr.blksOk V na nb g.blks = true from all_true fun j hj => HF.out j (by rw [← HNb.out]; exact hj))
                                      have hel := Gr.ends_le g.blks nb
                                      clear HF HBl
                                      by_cases h1 : Gr.ends g.blks nb = 1
                                      · have HE := Lib.hid (show decide (Gr.ends g.blks nb = 1) = true by simp [h1])
                                        rw [h1]
                                        clear h1 hel
                                        have g6 := HT.out.2.cell 6
                                        go_wp2
                                        clear g6 g5
                                        go_loopw [8, 9] (fun i _ wr => ∃ k : Nat, k ≤ np ∧ i = .int .i64 k ∧ Hid (Gq w #[.slice Ai ni ci, .int .i64 V, .int .i64 K, .slice Aa na ca, .int .i64 S, .slice Ab nb cb, .slice Ap np cp, .slice Ah nh ch] wr) ∧ Hid (∀ j, j < k → Gr.ptOk nb (g.pts.getD j []) = true)) (fun i _ _ => np - (intOf i).toNat)
                                        case atStart => exact ⟨0, Nat.zero_le _, rfl, HT, Lib.hid fun j hj => absurd hj (Nat.not_lt_zero _)⟩
                                        case round =>
                                          clear HT
                                          obtain ⟨k, hk, rfl, HT, HF⟩ := hrel
                                          have g6 := HT.out.2.cell 6
                                          by_cases hlt : k < np
                                          · have hlt' : (k : Int) < np := by omega
                                            have hlt0 : (0 : Int) ≤ (k : Int) := by omega
                                            clear g6
                                            have HPt := HPs.out k hlt
                                            obtain ⟨bb, off, rfl, hbb, hx0, hq, hcap⟩ := HPt
                                            replace hx0 := (HT.out.1.cell (p := ⟨bb, off + k, none⟩) hbb).trans hx0
                                            have HLen := Lib.hid (HF0.out.pt _ (mem_getD (d := []) (show k < g.pts.length by rw [HNp.out]; exact hlt)))
                                            obtain ⟨l, hl⟩ : ∃ l, g.pts.getD k [] = l := ⟨_, rfl⟩
                                            have HLl := Lib.hid hl
                                            rw [hl] at hx0 hq hcap HLen
                                            clear hl
                                            obtain ⟨A', c', hA, hqo⟩ := hq.opened
                                            injection hA with hA1 hA2 hA3
                                            subst hA1 hA3
                                            have HQo := Lib.hid hqo
                                            obtain ⟨nq, hnq⟩ : ∃ n, l.length = n := ⟨_, rfl⟩
                                            rw [hnq] at hx0 hcap HLen HQo
                                            have HNq := Lib.hid hnq
                                            have hnq47 := HLen.out
                                            have g6 := HT.out.2.cell 6
                                            have hcap' : (nq : Int) ≤ (c1 k : Int) := by omega
                                            clear hq hqo hA2 hnq HLen
                                            go_wp2
                                            go_loopw [9] (fun i wr' => ∃ q : Nat, q ≤ nq ∧ i = .int .i64 q ∧ Hid (Gq w #[.slice Ai ni ci, .int .i64 V, .int .i64 K, .slice Aa na ca, .int .i64 S, .slice Ab nb cb, .slice (some ⟨bb, off, none⟩) np cp, .slice Ah nh ch] wr' ∧ wr'.cell? ⟨bb, off + k, none⟩ = some (.slice (a1 k) nq (c1 k))) ∧ Hid (∀ j, j < q → Gr.ptAt nb l j = true)) (fun i _ => nq - (intOf i).toNat)
                                            case atStart => exact ⟨0, Nat.zero_le _, rfl, Lib.hid ⟨HT.out, hx0⟩, Lib.hid fun j hj => absurd hj (Nat.not_lt_zero _)⟩
                                            case round =>
                                              have hltp := hlt
                                              clear hx0 g6 hlt hlt' hlt0
                                              obtain ⟨q, hq, rfl, HU, HFq⟩ := hrel
                                              have g6 := HU.out.1.2.cell 6
                                              have hx0 := HU.out.2
                                              by_cases hlt : q < nq
                                              · have hlt' : (q : Int) < nq := by omega
                                                have hlt0 : (0 : Int) ≤ (q : Int) := by omega
                                                obtain ⟨bq, oq, hAq, hbq, hxq⟩ := HQo.out q hlt
                                                rw [hAq] at hx0
                                                replace hxq := (HU.out.1.1.cell (p := ⟨bq, oq + q, none⟩) hbq).trans hxq
                                                have g5 := HU.out.1.2.cell 5
                                                have hcq : (q : Int) ≤ (c1 k : Int) := by omega
                                                have hbw : bq < wr.heap.size := Nat.lt_of_lt_of_le hbq HU.out.1.1.size
                                                have HHas := Lib.hid fun (x : Int) (r : Bool) (hr : ((List.range q).any fun j => decide (l.getD j 0 = x)) = r) (W : World) (hW : Below wr.heap.size wr W) =>
                                                  rhas_any (some ⟨bq, oq, none⟩) q (c1 k) (fun j => l.getD j 0) x r hr W (fun j hj => by
                                                    obtain ⟨bj, oj, e, hbj, hxj⟩ := HQo.out j (by omega)
                                                    rw [hAq] at e
                                                    injection e with e
                                                    injection e with e1 e2
                                                    subst e1 e2
                                                    have hb2 := blt HU.out.1.1 hW
                                                    exact ⟨_, _, rfl, Nat.lt_of_lt_of_le hbj hb2.size, (hb2.cell (p := ⟨bq, oq + j, none⟩) hbj).trans hxj⟩) (by unfold maxLen; omega)
                                                have HAt := Lib.hid (show Gr.ptAt nb l q = (Gr.inn (l.getD q 0) nb && (List.range q).all fun j => decide (l.getD j 0 ≠ l.getD q 0)) from rfl)
                                                have HBadAt := Lib.hid (show Gr.ptAt nb l q = false → Gr.chk g = 10 from fun h => Gr.chk_no HSm.out (by rw [HRt.out, show Gr.ptsOk nb g.pts = false from all_false (k := k) (by rw [HNp.out]; exact hltp) (by rw [HLl.out]; exact all_false (by rw [HNq.out]; exact hlt) h)]; simp))
                                                obtain ⟨x, hx⟩ : ∃ x, l.getD q 0 = x := ⟨_, rfl⟩
                                                rw [hx] at hxq HAt
                                                clear hx
                                                cases h1 : Gr.inn x nb
                                                · have H1 := Lib.hid h1
                                                  have HBad := Lib.hid (HBadAt.out (by rw [HAt.out, H1.out]; rfl))
                                                  clear h1
                                                  go_wp2
                                                  go_quiet ((go_at_call 49; exact Calls.quiet_of_same (rin_any x nb _ H1.out _)))
                                                  go_wp2
                                                  go_ret
                                                  exact ⟨by rw [HBad.out]; rfl, HU.out.1.1.trans (below_drewN _ _ _)⟩
                                                · have H1 := Lib.hid h1
                                                  clear h1
                                                  cases h2 : (List.range q).any fun j => decide (l.getD j 0 = x)
                                                  · have H2 := Lib.hid h2
                                                    have HX := Lib.hid (show Gr.ptAt nb l q = true by rw [HAt.out, H1.out, ← any_all_ne, H2.out]; rfl)
                                                    clear h2
                                                    go_wp2
                                                    go_quiet ((first | (go_at_call 49; exact Calls.quiet_of_same (rin_any x nb _ H1.out _)) | (go_at_call 50; exact Calls.quiet_of_same (HHas.out x _ H2.out _ (below_drewN _ _ _)))))
                                                    go_wp2
                                                    go_roundw
                                                    case rel => exact ⟨q + 1, by omega, by first | rfl | go_num, Lib.hid ⟨HU.out.1.below (below_drewN _ _ _), by simpa [hAq] using HU.out.2⟩, Lib.hid fun j hj => by rcases Nat.lt_succ_iff_lt_or_eq.1 hj with h | rfl; exact HFq.out j h; exact HX.out⟩
                                                    case measure => simp [intOf]; omega
                                                  · have H2 := Lib.hid h2
                                                    have HBad := Lib.hid (HBadAt.out (by rw [HAt.out, ← any_all_ne, H2.out]; simp))
                                                    clear h2
                                                    go_wp2
                                                    go_quiet ((first | (go_at_call 49; exact Calls.quiet_of_same (rin_any x nb _ H1.out _)) | (go_at_call 50; exact Calls.quiet_of_same (HHas.out x _ H2.out _ (below_drewN _ _ _)))))
                                                    go_wp2
                                                    go_ret
                                                    exact ⟨by rw [HBad.out]; rfl, HU.out.1.1.trans (below_drewN _ _ _)⟩
                                              · have hlt' : ¬ (q : Int) < nq := by omega
                                                obtain rfl : nq = q := by omega
                                                have HX := Lib.hid (show Gr.ptOk nb (g.pts.getD k []) = true by rw [HLl.out]; exact all_true fun j hj => HFq.out j (by rw [← HNq.out]; exact hj))
                                                go_wp2
                                                go_roundw
                                                case rel => exact ⟨k + 1, by omega, by first | rfl | go_num, Lib.hid HU.out.1, Lib.hid fun j hj => by rcases Nat.lt_succ_iff_lt_or_eq.1 hj with h | rfl; exact HF.out j h; exact HX.out⟩
                                                case measure => simp [intOf]; omega
                                          · have hlt' : ¬ (k : Int) < np := by omega
                                            obtain rfl : np = k := by omega
                                            have HP := Lib.hid (show Gr.ptsOk nb g.pts = true from all_true fun j hj => HF.out j (by rw [← HNp.out]; exact hj))
                                            clear HF HPs
                                            have g7 := HT.out.2.cell 7
                                            go_wp2
                                            clear g7 g6
                                            go_loopw [10, 11] (fun i _ wr => ∃ k : Nat, k ≤ nh ∧ i = .int .i64 k ∧ Hid (Gq w #[.slice Ai ni ci, .int .i64 V, .int .i64 K, .slice Aa na ca, .int .i64 S, .slice Ab nb cb, .slice Ap np cp, .slice Ah nh ch] wr) ∧ Hid (∀ j, j < k → Gr.hdAt nb g.hds j = true)) (fun i _ _ => nh - (intOf i).toNat)
                                            case atStart => exact ⟨0, Nat.zero_le _, rfl, HT, Lib.hid fun j hj => absurd hj (Nat.not_lt_zero _)⟩
                                            case round =>
                                              clear HT
                                              obtain ⟨k, hk, rfl, HT, HF⟩ := hrel
                                              have g7 := HT.out.2.cell 7
                                              by_cases hlt : k < nh
                                              · have hlt' : (k : Int) < nh := by omega
                                                have hlt0 : (0 : Int) ≤ (k : Int) := by omega
                                                clear g7
                                                obtain ⟨bb, off, rfl, hbb, hx0, hx1⟩ := HH.out k hlt
                                                replace hx0 := (HT.out.1.cell (p := ⟨bb, off + k * 2, none⟩) hbb).trans hx0
                                                replace hx1 := (HT.out.1.cell (p := ⟨bb, off + k * 2 + 1, none⟩) hbb).trans hx1
                                                have hbw : bb < wr.heap.size := Nat.lt_of_lt_of_le hbb HT.out.1.size
                                                have HAt := Lib.hid (show Gr.hdAt nb g.hds k = (decide (Gr.hdLast g.hds k < (g.hds.getD k (0, 0)).1) && Gr.inn (g.hds.getD k (0, 0)).1 nb && Gr.inn (g.hds.getD k (0, 0)).2 4001) from rfl)
                                                have hpv : ∀ m, k = m + 1 → wr.cell? ⟨bb, off + m * 2, none⟩ = some (.int .i64 (g.hds.getD m (0, 0)).1) := fun m hm => by
                                                  obtain ⟨bb', off', e, _, h, _⟩ := HH.out m (by omega)
                                                  injection e with e
                                                  injection e with e1 e2
                                                  subst e1 e2
                                                  exact (HT.out.1.cell (p := ⟨bb, off + m * 2, none⟩) hbb).trans h
                                                obtain ⟨x, hx⟩ : ∃ x, (g.hds.getD k (0, 0)).1 = x := ⟨_, rfl⟩
                                                obtain ⟨y, hy⟩ : ∃ x, (g.hds.getD k (0, 0)).2 = x := ⟨_, rfl⟩
                                                rw [hx] at hx0 HAt
                                                rw [hy] at hx1 HAt
                                                clear hx hy
                                                have g5 := HT.out.2.cell 5
                                                have g7 := HT.out.2.cell 7
                                                have HW := Lib.hid (HT.out.below (bla (Below.refl wr.heap.size wr) (.cells #[.int .i64 x, .int .i64 y] 52)))
                                                have HBadAt := Lib.hid (show Gr.hdAt nb g.hds k = false → Gr.chk g = 10 from fun h => Gr.chk_no HSm.out (by rw [HRt.out, show Gr.hdsOk nb g.hds = false from all_false (by rw [HNh.out]; exact hlt) h]; simp))
                                                have hgs : w.heap.size < wr.heap.size := HT.out.2.lt
                                                cases h1 : Gr.inn x nb
                                                · have H1 := Lib.hid h1
                                                  have HBad := Lib.hid (HBadAt.out (by rw [HAt.out, H1.out]; simp))
                                                  clear h1 hpv
                                                  go_wp2
                                                  go_quiet ((go_at_call 49; exact Calls.quiet_of_same (rin_any x nb _ H1.out _)))
                                                  go_wp2
                                                  go_ret
                                                  exact ⟨by rw [HBad.out]; rfl, HW.out.1.trans (below_drewN _ _ _)⟩
                                                · have H1 := Lib.hid h1
                                                  clear h1
                                                  by_cases h2 : y < 0
                                                  · have e2 : decide (y < 0) = true := by simp [h2]
                                                    have HBad := Lib.hid (HBadAt.out (by rw [HAt.out, show Gr.inn y 4001 = false by unfold Gr.inn; simp; omega]; simp))
                                                    clear hpv
                                                    go_wp2
                                                    go_quiet ((go_at_call 49; exact Calls.quiet_of_same (rin_any x nb _ H1.out _)))
                                                    go_wp2
                                                    go_ret
                                                    exact ⟨by rw [HBad.out]; rfl, HW.out.1.trans (below_drewN _ _ _)⟩
                                                  · have e2 : decide (y < 0) = false := by simp; omega
                                                    by_cases h3 : 4000 < y
                                                    · have e3 : decide (4000 < y) = true := by simp [h3]
                                                      have HBad := Lib.hid (HBadAt.out (by rw [HAt.out, show Gr.inn y 4001 = false by unfold Gr.inn; simp; omega]; simp))
                                                      clear hpv
                                                      go_wp2
                                                      go_quiet ((go_at_call 49; exact Calls.quiet_of_same (rin_any x nb _ H1.out _)))
                                                      go_wp2
                                                      go_ret
                                                      exact ⟨by rw [HBad.out]; rfl, HW.out.1.trans (below_drewN _ _ _)⟩
                                                    · have e3 : decide (4000 < y) = false := by simp; omega
                                                      have HY := Lib.hid (show Gr.inn y 4001 = true by unfold Gr.inn; simp; omega)
                                                      by_cases hk0 : k = 0
                                                      · have k0 : decide ((0 : Int) < (k : Int)) = false := by simp [hk0]
                                                        have hkz : ¬ 0 < k := by omega
                                                        have HX := Lib.hid (show Gr.hdAt nb g.hds k = true by rw [HAt.out, H1.out, HY.out]; unfold Gr.hdLast; rw [if_pos hk0]; have := H1.out; unfold Gr.inn at this; simp at this; simp; omega)
                                                        clear hk0 hpv
                                                        go_wp2
                                                        go_quiet ((go_at_call 49; exact Calls.quiet_of_same (rin_any x nb _ H1.out _)))
                                                        go_wp2
                                                        go_roundw
                                                        case rel => exact ⟨k + 1, by omega, by first | rfl | go_num, Lib.hid (HW.out.below (below_drewN _ _ _)), Lib.hid fun j hj => by rcases Nat.lt_succ_iff_lt_or_eq.1 hj with h | rfl; exact HF.out j h; exact HX.out⟩
                                                        case measure => simp [intOf]; omega
                                                      · obtain ⟨m, hm⟩ : ∃ m, k = m + 1 := ⟨k - 1, by omega⟩
                                                        have hz := hpv m hm
                                                        have k0 : decide ((0 : Int) < (k : Int)) = true := by simp; omega
                                                        have hkz : 0 < k := by omega
                                                        have wm : IntKind.i64.wrap ((k : Int) - 1) = (m : Int) := by rw [IntWalk.i64_in] <;> omega
                                                        have wm2 : wrap64 ((k : Int) - 1) = (m : Int) := by rw [wrap64_same (by omega)]; omega
                                                        have wm3 : IntKind.i64.wrap (m : Int) = (m : Int) := by rw [IntWalk.i64_in]; omega
                                                        have hml : (0 : Int) ≤ (m : Int) := by omega
                                                        have hml2 : (m : Int) < nh := by omega
                                                        have HL := Lib.hid (show Gr.hdLast g.hds k = (g.hds.getD m (0, 0)).1 by unfold Gr.hdLast; rw [if_neg hk0, hm]; rfl)
                                                        rw [HL.out] at HAt
                                                        obtain ⟨z, hz'⟩ : ∃ x, (g.hds.getD m (0, 0)).1 = x := ⟨_, rfl⟩
                                                        rw [hz'] at hz HAt
                                                        clear hz' hk0 hpv hm HL
                                                        by_cases h5 : x ≤ z
                                                        · have e5 : decide (x ≤ z) = true := by simp [h5]
                                                          have HBad := Lib.hid (HBadAt.out (by rw [HAt.out, decide_eq_false (show ¬ z < x by omega)]; simp))
                                                          go_wp2
                                                          go_quiet ((go_at_call 49; exact Calls.quiet_of_same (rin_any x nb _ H1.out _)))
                                                          go_wp2
                                                          go_ret
                                                          exact ⟨by rw [HBad.out]; rfl, HW.out.1.trans (below_drewN _ _ _)⟩
                                                        · have e5 : decide (x ≤ z) = false := by simp; omega
                                                          have HX := Lib.hid (show Gr.hdAt nb g.hds k = true by rw [HAt.out, H1.out, HY.out, decide_eq_true (show z < x by omega)]; rfl)
                                                          go_wp2
                                                          go_quiet ((go_at_call 49; exact Calls.quiet_of_same (rin_any x nb _ H1.out _)))
                                                          go_wp2
                                                          go_roundw
                                                          case rel => exact ⟨k + 1, by omega, by first | rfl | go_num, Lib.hid (HW.out.below (below_drewN _ _ _)), Lib.hid fun j hj => by rcases Nat.lt_succ_iff_lt_or_eq.1 hj with h | rfl; exact HF.out j h; exact HX.out⟩
                                                          case measure => simp [intOf]; omega
                                              · have hlt' : ¬ (k : Int) < nh := by omega
                                                obtain rfl : nh = k := by omega
                                                have HOk := Lib.hid (show Gr.chk g = 0 from Gr.chk_ok HSm.out (by rw [HRt.out, HD.out, HE.out, HBk.out, HP.out, show Gr.hdsOk nb g.hds = true from all_true fun j hj => HF.out j (by rw [← HNh.out]; exact hj)]; rfl))
                                                go_wp2
                                                go_ret
                                                exact ⟨by rw [HOk.out]; rfl, HT.out.1⟩
                                      · have HBad := Lib.hid (show Gr.chk g = 10 from Gr.chk_no HSm.out (by rw [HRt.out, decide_eq_false h1]; simp))
                                        have e1 : ((Gr.ends g.blks nb : Int) != 1) = true := by simp; omega
                                        clear h1
                                        go_wp2
                                        go_ret
                                        exact ⟨by rw [HBad.out]; rfl, HT.out.1⟩
end Go.Proofs.Ytojnhdkclabkgaa
