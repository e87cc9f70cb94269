/- The code of layer 14: what is learnt of an operation. No condition. -/
import Derived.Test.YtojnhdkclabkgaaFoLearn
import Derived.Deep.DeepCutAuto
import Derived.Deep.CutBlock
namespace Go.Proofs.Ytojnhdkclabkgaa
open Go.RowKit Go.Maps
set_option linter.unusedVariables false
set_option linter.unusedSimpArgs false
attribute [local go_sem] y_undef
/-- Of what was there nothing has turned but blocks b1 and b2. -/
structure Mu (b1 b2 : Nat) (w w' : World) : Prop where
  os : w'.os = w.os
  tape : w'.tape = w.tape
  output : w'.output = w.output
  size : w.heap.size ≤ w'.heap.size
  block : ∀ j, j < w.heap.size → j ≠ b1 → j ≠ b2 → w'.heap[j]? = w.heap[j]?
theorem Mu.of_below {b1 b2 : Nat} {w w' : World} (h : Below w.heap.size w w') : Mu b1 b2 w w' := ⟨h.os, h.tape, h.output, h.size, fun j hj _ _ => h.block j hj⟩
theorem Mu.trans {b1 b2 : Nat} {w a c : World} (h : Mu b1 b2 w a) (k : Mu b1 b2 a c) : Mu b1 b2 w c :=
  ⟨k.os.trans h.os, k.tape.trans h.tape, k.output.trans h.output, Nat.le_trans h.size k.size, fun j hj h1 h2 => (k.block j (Nat.lt_of_lt_of_le hj h.size) h1 h2).trans (h.block j hj h1 h2)⟩
theorem Mu.grown1 {b1 b2 : Nat} {w w' : World} (h : w.grownBy w' (some b1)) : Mu b1 b2 w w' := ⟨h.os, h.tape, h.output, h.size, fun j hj h1 _ => h.block j hj (fun e => h1 (by injection e))⟩
theorem Mu.grown2 {b1 b2 : Nat} {w w' : World} (h : w.grownBy w' (some b2)) : Mu b1 b2 w w' := ⟨h.os, h.tape, h.output, h.size, fun j hj _ h2 => h.block j hj (fun e => h2 (by injection e))⟩
theorem Mu.below {b1 b2 B : Nat} {w w' : World} (h : Mu b1 b2 w w') (h1 : B ≤ b1) (h2 : B ≤ b2) (hB : B ≤ w.heap.size) : Below B w w' := ⟨h.os, h.tape, h.output, h.size, fun j hj => h.block j (by omega) (by omega) (by omega)⟩
theorem Mu.bk {b1 b2 g : Nat} {t : TypeId} {cs : Array Value} {w w' : World} (h : Mu b1 b2 w w') (hb : Bk w g t cs) (h1 : g ≠ b1) (h2 : g ≠ b2) : Bk w' g t cs := (h.block g hb.lt h1 h2).trans hb
theorem Mu.keeps2 {b1 b2 : Nat} {w w' : World} (h : Mu b1 b2 w w') (hg : w.grownBy w' (some b1)) (hl : b2 < w.heap.size) (hne : b1 ≠ b2) : w'.heap[b2]? = w.heap[b2]? := hg.block b2 hl (fun e => hne (by injection e with e; exact e.symm))
theorem MapF.more {u : World} {b n m : Nat} {f : Int → Option Int} (h : MapF u b n f) (hm : n ≤ m) : MapF u b m f := by
  obtain ⟨D, ⟨es, clock, h1, h2, h3, h4⟩, h5⟩ := h
  exact ⟨D, ⟨es, clock, h1, h2, Nat.le_trans h3 hm, h4⟩, h5⟩
theorem b2_new0 (w : World) (kc oc : Array Value) : Below w.heap.size w ((w.alloc (.cells kc 77)).alloc (.cells oc 27)) ∧ Bk ((w.alloc (.cells kc 77)).alloc (.cells oc 27)) w.heap.size 77 kc ∧ Bk ((w.alloc (.cells kc 77)).alloc (.cells oc 27)) (w.heap.size + 1) 27 oc := by
  refine ⟨bla (bla (Below.refl _ _) _) _, (Bk.new w _ _).below (bla (Below.refl _ _) _), ?_⟩
  have := Bk.new (w.alloc (.cells kc 77)) 27 oc
  rw [size_alloc] at this
  exact this
theorem learn_5 (s : Fo.S) (B1 B2 n : Nat) (d a b i : Int) (w : World) (hk : Kn w B1 B2 n s) :
    Calls Try.prog 44 #[.agg #[.map (some B1), .map (some B2)], .agg #[.int .i64 5, .int .i64 d, .int .i64 a, .int .i64 b, .int .i64 i]] w fun e w' => e = .returned (.tuple #[]) ∧ Kn w' B1 B2 (n + 1) (Fo.learn s ⟨5, d, a, b, i⟩) ∧ Mu B1 B2 w w' := by
  have HB := Lib.hid (b2_new0 w #[.map (some B1), .map (some B2)] #[.int .i64 5, .int .i64 d, .int .i64 a, .int .i64 b, .int .i64 i])
  have HK := Lib.hid (hk.below HB.out.1)
  clear hk
  go_enter Try.func44, Try.ntmps44
  go_wp2
  refine bodyPost_ret (v := .tuple #[]) (by simp [results, Try.results44, go_sem]) rfl ?_
  exact ⟨rfl, ⟨HK.out.1.more (Nat.le_succ _), HK.out.2.more (Nat.le_succ _)⟩, Mu.of_below HB.out.1⟩
theorem learn_6 (s : Fo.S) (B1 B2 n : Nat) (d a b i : Int) (w : World) (hk : Kn w B1 B2 n s) :
    Calls Try.prog 44 #[.agg #[.map (some B1), .map (some B2)], .agg #[.int .i64 6, .int .i64 d, .int .i64 a, .int .i64 b, .int .i64 i]] w fun e w' => e = .returned (.tuple #[]) ∧ Kn w' B1 B2 (n + 1) (Fo.learn s ⟨6, d, a, b, i⟩) ∧ Mu B1 B2 w w' := by
  have HB := Lib.hid (b2_new0 w #[.map (some B1), .map (some B2)] #[.int .i64 6, .int .i64 d, .int .i64 a, .int .i64 b, .int .i64 i])
  have HK := Lib.hid (hk.below HB.out.1)
  clear hk
  go_enter Try.func44, Try.ntmps44
  go_wp2
  refine bodyPost_ret (v := .tuple #[]) (by simp [results, Try.results44, go_sem]) rfl ?_
  exact ⟨rfl, ⟨HK.out.1.more (Nat.le_succ _), HK.out.2.more (Nat.le_succ _)⟩, Mu.of_below HB.out.1⟩
theorem learn_7 (s : Fo.S) (B1 B2 n : Nat) (d a b i : Int) (w : World) (hk : Kn w B1 B2 n s) :
    Calls Try.prog 44 #[.agg #[.map (some B1), .map (some B2)], .agg #[.int .i64 7, .int .i64 d, .int .i64 a, .int .i64 b, .int .i64 i]] w fun e w' => e = .returned (.tuple #[]) ∧ Kn w' B1 B2 (n + 1) (Fo.learn s ⟨7, d, a, b, i⟩) ∧ Mu B1 B2 w w' := by
  have HB := Lib.hid (b2_new0 w #[.map (some B1), .map (some B2)] #[.int .i64 7, .int .i64 d, .int .i64 a, .int .i64 b, .int .i64 i])
  have HK := Lib.hid (hk.below HB.out.1)
  clear hk
  go_enter Try.func44, Try.ntmps44
  go_wp2
  refine bodyPost_ret (v := .tuple #[]) (by simp [results, Try.results44, go_sem]) rfl ?_
  exact ⟨rfl, ⟨HK.out.1.more (Nat.le_succ _), HK.out.2.more (Nat.le_succ _)⟩, Mu.of_below HB.out.1⟩
theorem Fo.upd_upd (f : Int → Option Int) (d : Int) (x y : Option Int) : Fo.upd (Fo.upd f d x) d y = Fo.upd f d y := by
  funext v
  unfold Fo.upd
  by_cases h : v = d <;> simp [h]
theorem Fo.learn_1 (s : Fo.S) (d a b i : Int) : Fo.learn s ⟨1, d, a, b, i⟩ = ⟨Fo.upd s.wd d (some i), Fo.cut s.cp d⟩ := by unfold Fo.learn; simp
theorem Fo.learn_2 {s : Fo.S} {d a b i : Int} (h : a ≠ d) : Fo.learn s ⟨2, d, a, b, i⟩ = ⟨Fo.upd s.wd d none, Fo.upd (Fo.cut s.cp d) d (some a)⟩ := by unfold Fo.learn; simp [h]
theorem Fo.learn_0 {s : Fo.S} {k d a b i : Int} (h : k = 2 ∧ a = d ∨ k = 3 ∨ k = 4) : Fo.learn s ⟨k, d, a, b, i⟩ = ⟨Fo.upd s.wd d none, Fo.cut s.cp d⟩ := by
  unfold Fo.learn
  rcases h with ⟨rfl, rfl⟩ | rfl | rfl <;> simp
set_option maxHeartbeats 4000000 in
theorem learn_1 (s : Fo.S) (B1 B2 n : Nat) (d a b i : Int) (w : World) (hk : Kn w B1 B2 n s) (hd : Wf d) (ha : Wf a) (hi : Wf i) (hn : n < 4611686018427387904) (hne : B1 ≠ B2) :
    Calls Try.prog 44 #[.agg #[.map (some B1), .map (some B2)], .agg #[.int .i64 1, .int .i64 d, .int .i64 a, .int .i64 b, .int .i64 i]] w fun e w' => e = .returned (.tuple #[]) ∧ Kn w' B1 B2 (n + 1) (Fo.learn s ⟨1, d, a, b, i⟩) ∧ Mu B1 B2 w w' := by
  have HB := Lib.hid (b2_new0 w #[.map (some B1), .map (some B2)] #[.int .i64 1, .int .i64 d, .int .i64 a, .int .i64 b, .int .i64 i])
  have HK := Lib.hid (hk.below HB.out.1)
  have HVd := Lib.hid hd
  have HN := Lib.hid hn
  have HNe := Lib.hid (show B1 ≠ B2 ∧ True ∧ w.heap.size ≠ B1 ∧ w.heap.size ≠ B2 ∧ w.heap.size + 1 ≠ B1 ∧ w.heap.size + 1 ≠ B2 by have := hk.1.lt; have := hk.2.lt; exact ⟨hne, trivial, by omega, by omega, by omega, by omega⟩)
  have HVi := Lib.hid hi
  have HVa := Lib.hid ha
  clear hi ha
  obtain ⟨D1, hown1, hD1⟩ := HK.out.1
  have HD1 := Lib.hid hD1
  have HK2 := Lib.hid HK.out.2
  clear hD1 hk hd hn hne HK
  go_enter Try.func44, Try.ntmps44
  go_wp2_with (first | (at_delete; refine wpList_delete_own _ rfl _ _ 75 3 rfl 3 mlaw Try.underlying75 _ B1 n D1 rfl hown1 _ _ rfl (keyOf_int_mk Try.underlying3 HVd.out.lit) ?_; intro w1 hown2 hturn1; have hM1 : Mu B1 B2 _ w1 := Mu.grown1 hturn1.grown; have hK1 := hM1.bk HB.out.2.1 HNe.out.2.2.1 HNe.out.2.2.2.1; have hO1 := hM1.bk HB.out.2.2 HNe.out.2.2.2.2.1 HNe.out.2.2.2.2.2; have k0 := hK1.cell 0; have k1 := hK1.cell 1; have o0 := hO1.cell 0; have o1 := hO1.cell 1; have o2 := hO1.cell 2; have o4 := hO1.cell 4; have HM2 := Lib.hid (HK2.out.kept (hM1.keeps2 hturn1.grown HK2.out.lt HNe.out.1)); have HX := Lib.hid (And.intro hM1 (And.intro hK1 (And.intro hO1 (And.intro hown2 hturn1)))); clear hM1 hK1 hO1 hown2 hturn1) | fail)
  refine (deletefunc_any s.cp B2 n (w.heap.size + 1) d _ HM2.out o1).mono ?_
  rintro e w2 ⟨rfl, hcut, hg2⟩
  have hM2 : Mu B1 B2 _ w2 := Mu.grown2 hg2
  have hK2 := hM2.bk HX.out.2.1 HNe.out.2.2.1 HNe.out.2.2.2.1
  have hO2 := hM2.bk HX.out.2.2.1 HNe.out.2.2.2.2.1 HNe.out.2.2.2.2.2
  clear k0 k1 o0 o1 o2 o4
  have k0 := hK2.cell 0
  have k1 := hK2.cell 1
  have o0 := hO2.cell 0
  have o1 := hO2.cell 1
  have o2 := hO2.cell 2
  have o4 := hO2.cell 4
  have HC := Lib.hid hcut
  have hl1 := HX.out.2.2.2.1.lt
  have HW1 := Lib.hid (show MapF w2 B1 n (Fo.upd s.wd d none) from MapF.kept ⟨_, HX.out.2.2.2.1, fun z hz => mapf_del HD1.out z hz⟩ (hg2.block B1 hl1 (fun e => HNe.out.1 (by injection e))))
  have HM := Lib.hid (((Mu.of_below HB.out.1).trans HX.out.1).trans hM2)
  clear hcut hg2 hM2 hK2 hO2 HX HM2
  obtain ⟨D3, hown3, hD3⟩ := HW1.out
  have HD3 := Lib.hid hD3
  have hlc := HC.out.lt
  have hl3 := hown3.lt
  clear hD3
  go_wp2_with (first | (at_mapUpdate; refine wpList_mapUpdate_own _ rfl _ _ _ 75 rfl 3 3 mlaw Try.underlying75 _ B1 n D3 rfl hown3 (by have := HN.out; unfold maxLen; omega) _ _ _ rfl rfl (keyOf_int_mk Try.underlying3 HVd.out.lit) _ [] (plainElem_int Try.underlying3 HVi.out.lit) ?_; intro w3 hown4 hg4) | fail)
  go_end0
  rw [Fo.learn_1]
  refine ⟨rfl, ⟨⟨_, hown4, fun z hz => ?_⟩, (HC.out.kept (hg4.block B2 hlc (fun e => HNe.out.1 (by injection e with e; exact e.symm)))).more (Nat.le_succ _)⟩, HM.out.trans (Mu.grown1 hg4)⟩
  have := mapf_put (d := d) (x := i) hown3.isMap HD3.out z hz
  rw [Fo.upd_upd] at this
  exact this
set_option maxHeartbeats 4000000 in
theorem learn_2 (s : Fo.S) (B1 B2 n : Nat) (d a b i : Int) (had : a ≠ d) (w : World) (hk : Kn w B1 B2 n s) (hd : Wf d) (ha : Wf a) (hi : Wf i) (hn : n < 4611686018427387904) (hne : B1 ≠ B2) :
    Calls Try.prog 44 #[.agg #[.map (some B1), .map (some B2)], .agg #[.int .i64 2, .int .i64 d, .int .i64 a, .int .i64 b, .int .i64 i]] w fun e w' => e = .returned (.tuple #[]) ∧ Kn w' B1 B2 (n + 1) (Fo.learn s ⟨2, d, a, b, i⟩) ∧ Mu B1 B2 w w' := by
  have HB := Lib.hid (b2_new0 w #[.map (some B1), .map (some B2)] #[.int .i64 2, .int .i64 d, .int .i64 a, .int .i64 b, .int .i64 i])
  have HK := Lib.hid (hk.below HB.out.1)
  have HVd := Lib.hid hd
  have HN := Lib.hid hn
  have HNe := Lib.hid (show B1 ≠ B2 ∧ True ∧ w.heap.size ≠ B1 ∧ w.heap.size ≠ B2 ∧ w.heap.size + 1 ≠ B1 ∧ w.heap.size + 1 ≠ B2 by have := hk.1.lt; have := hk.2.lt; exact ⟨hne, trivial, by omega, by omega, by omega, by omega⟩)
  have HVi := Lib.hid hi
  have HVa := Lib.hid ha
  clear hi ha
  have HAd := Lib.hid had
  have ead : (a != d) = true := by simp [had]
  clear had
  obtain ⟨D1, hown1, hD1⟩ := HK.out.1
  have HD1 := Lib.hid hD1
  have HK2 := Lib.hid HK.out.2
  clear hD1 hk hd hn hne HK
  go_enter Try.func44, Try.ntmps44
  go_wp2_with (first | (at_delete; refine wpList_delete_own _ rfl _ _ 75 3 rfl 3 mlaw Try.underlying75 _ B1 n D1 rfl hown1 _ _ rfl (keyOf_int_mk Try.underlying3 HVd.out.lit) ?_; intro w1 hown2 hturn1; have hM1 : Mu B1 B2 _ w1 := Mu.grown1 hturn1.grown; have hK1 := hM1.bk HB.out.2.1 HNe.out.2.2.1 HNe.out.2.2.2.1; have hO1 := hM1.bk HB.out.2.2 HNe.out.2.2.2.2.1 HNe.out.2.2.2.2.2; have k0 := hK1.cell 0; have k1 := hK1.cell 1; have o0 := hO1.cell 0; have o1 := hO1.cell 1; have o2 := hO1.cell 2; have o4 := hO1.cell 4; have HM2 := Lib.hid (HK2.out.kept (hM1.keeps2 hturn1.grown HK2.out.lt HNe.out.1)); have HX := Lib.hid (And.intro hM1 (And.intro hK1 (And.intro hO1 (And.intro hown2 hturn1)))); clear hM1 hK1 hO1 hown2 hturn1) | fail)
  refine (deletefunc_any s.cp B2 n (w.heap.size + 1) d _ HM2.out o1).mono ?_
  rintro e w2 ⟨rfl, hcut, hg2⟩
  have hM2 : Mu B1 B2 _ w2 := Mu.grown2 hg2
  have hK2 := hM2.bk HX.out.2.1 HNe.out.2.2.1 HNe.out.2.2.2.1
  have hO2 := hM2.bk HX.out.2.2.1 HNe.out.2.2.2.2.1 HNe.out.2.2.2.2.2
  clear k0 k1 o0 o1 o2 o4
  have k0 := hK2.cell 0
  have k1 := hK2.cell 1
  have o0 := hO2.cell 0
  have o1 := hO2.cell 1
  have o2 := hO2.cell 2
  have o4 := hO2.cell 4
  have HC := Lib.hid hcut
  have hl1 := HX.out.2.2.2.1.lt
  have HW1 := Lib.hid (show MapF w2 B1 n (Fo.upd s.wd d none) from MapF.kept ⟨_, HX.out.2.2.2.1, fun z hz => mapf_del HD1.out z hz⟩ (hg2.block B1 hl1 (fun e => HNe.out.1 (by injection e))))
  have HM := Lib.hid (((Mu.of_below HB.out.1).trans HX.out.1).trans hM2)
  clear hcut hg2 hM2 hK2 hO2 HX HM2
  obtain ⟨D3, hown3, hD3⟩ := HC.out
  have HD3 := Lib.hid hD3
  have hlw := HW1.out.lt
  have hl3 := hown3.lt
  clear hD3
  go_wp2_with (first | (at_mapUpdate; refine wpList_mapUpdate_own _ rfl _ _ _ 75 rfl 3 3 mlaw Try.underlying75 _ B2 n D3 rfl hown3 (by have := HN.out; unfold maxLen; omega) _ _ _ rfl rfl (keyOf_int_mk Try.underlying3 HVd.out.lit) _ [] (plainElem_int Try.underlying3 HVa.out.lit) ?_; intro w3 hown4 hg4) | fail)
  go_end0
  rw [Fo.learn_2 HAd.out]
  exact ⟨rfl, ⟨(HW1.out.kept (hg4.block B1 hlw (fun e => HNe.out.1 (by injection e)))).more (Nat.le_succ _), ⟨_, hown4, fun z hz => mapf_put (d := d) (x := a) hown3.isMap HD3.out z hz⟩⟩, HM.out.trans (Mu.grown2 hg4)⟩
set_option maxHeartbeats 4000000 in
theorem learn_2s (s : Fo.S) (B1 B2 n : Nat) (d a b i : Int) (had : a = d) (w : World) (hk : Kn w B1 B2 n s) (hd : Wf d) (ha : Wf a) (hi : Wf i) (hn : n < 4611686018427387904) (hne : B1 ≠ B2) :
    Calls Try.prog 44 #[.agg #[.map (some B1), .map (some B2)], .agg #[.int .i64 2, .int .i64 d, .int .i64 a, .int .i64 b, .int .i64 i]] w fun e w' => e = .returned (.tuple #[]) ∧ Kn w' B1 B2 (n + 1) (Fo.learn s ⟨2, d, a, b, i⟩) ∧ Mu B1 B2 w w' := by
  have HB := Lib.hid (b2_new0 w #[.map (some B1), .map (some B2)] #[.int .i64 2, .int .i64 d, .int .i64 a, .int .i64 b, .int .i64 i])
  have HK := Lib.hid (hk.below HB.out.1)
  have HVd := Lib.hid hd
  have HN := Lib.hid hn
  have HNe := Lib.hid (show B1 ≠ B2 ∧ True ∧ w.heap.size ≠ B1 ∧ w.heap.size ≠ B2 ∧ w.heap.size + 1 ≠ B1 ∧ w.heap.size + 1 ≠ B2 by have := hk.1.lt; have := hk.2.lt; exact ⟨hne, trivial, by omega, by omega, by omega, by omega⟩)
  have HVi := Lib.hid hi
  have HVa := Lib.hid ha
  clear hi ha
  have HAd := Lib.hid had
  have ead : (a != d) = false := by simp [had]
  clear had
  obtain ⟨D1, hown1, hD1⟩ := HK.out.1
  have HD1 := Lib.hid hD1
  have HK2 := Lib.hid HK.out.2
  clear hD1 hk hd hn hne HK
  go_enter Try.func44, Try.ntmps44
  go_wp2_with (first | (at_delete; refine wpList_delete_own _ rfl _ _ 75 3 rfl 3 mlaw Try.underlying75 _ B1 n D1 rfl hown1 _ _ rfl (keyOf_int_mk Try.underlying3 HVd.out.lit) ?_; intro w1 hown2 hturn1; have hM1 : Mu B1 B2 _ w1 := Mu.grown1 hturn1.grown; have hK1 := hM1.bk HB.out.2.1 HNe.out.2.2.1 HNe.out.2.2.2.1; have hO1 := hM1.bk HB.out.2.2 HNe.out.2.2.2.2.1 HNe.out.2.2.2.2.2; have k0 := hK1.cell 0; have k1 := hK1.cell 1; have o0 := hO1.cell 0; have o1 := hO1.cell 1; have o2 := hO1.cell 2; have o4 := hO1.cell 4; have HM2 := Lib.hid (HK2.out.kept (hM1.keeps2 hturn1.grown HK2.out.lt HNe.out.1)); have HX := Lib.hid (And.intro hM1 (And.intro hK1 (And.intro hO1 (And.intro hown2 hturn1)))); clear hM1 hK1 hO1 hown2 hturn1) | fail)
  refine (deletefunc_any s.cp B2 n (w.heap.size + 1) d _ HM2.out o1).mono ?_
  rintro e w2 ⟨rfl, hcut, hg2⟩
  have hM2 : Mu B1 B2 _ w2 := Mu.grown2 hg2
  have hK2 := hM2.bk HX.out.2.1 HNe.out.2.2.1 HNe.out.2.2.2.1
  have hO2 := hM2.bk HX.out.2.2.1 HNe.out.2.2.2.2.1 HNe.out.2.2.2.2.2
  clear k0 k1 o0 o1 o2 o4
  have k0 := hK2.cell 0
  have k1 := hK2.cell 1
  have o0 := hO2.cell 0
  have o1 := hO2.cell 1
  have o2 := hO2.cell 2
  have o4 := hO2.cell 4
  have HC := Lib.hid hcut
  have hl1 := HX.out.2.2.2.1.lt
  have HW1 := Lib.hid (show MapF w2 B1 n (Fo.upd s.wd d none) from MapF.kept ⟨_, HX.out.2.2.2.1, fun z hz => mapf_del HD1.out z hz⟩ (hg2.block B1 hl1 (fun e => HNe.out.1 (by injection e))))
  have HM := Lib.hid (((Mu.of_below HB.out.1).trans HX.out.1).trans hM2)
  clear hcut hg2 hM2 hK2 hO2 HX HM2
  go_wp2
  go_end0
  rw [Fo.learn_0 (.inl ⟨rfl, HAd.out⟩)]
  exact ⟨rfl, ⟨HW1.out.more (Nat.le_succ _), HC.out.more (Nat.le_succ _)⟩, HM.out⟩
set_option maxHeartbeats 4000000 in
theorem learn_3 (s : Fo.S) (B1 B2 n : Nat) (d a b i : Int) (w : World) (hk : Kn w B1 B2 n s) (hd : Wf d) (ha : Wf a) (hi : Wf i) (hn : n < 4611686018427387904) (hne : B1 ≠ B2) :
    Calls Try.prog 44 #[.agg #[.map (some B1), .map (some B2)], .agg #[.int .i64 3, .int .i64 d, .int .i64 a, .int .i64 b, .int .i64 i]] w fun e w' => e = .returned (.tuple #[]) ∧ Kn w' B1 B2 (n + 1) (Fo.learn s ⟨3, d, a, b, i⟩) ∧ Mu B1 B2 w w' := by
  have HB := Lib.hid (b2_new0 w #[.map (some B1), .map (some B2)] #[.int .i64 3, .int .i64 d, .int .i64 a, .int .i64 b, .int .i64 i])
  have HK := Lib.hid (hk.below HB.out.1)
  have HVd := Lib.hid hd
  have HN := Lib.hid hn
  have HNe := Lib.hid (show B1 ≠ B2 ∧ True ∧ w.heap.size ≠ B1 ∧ w.heap.size ≠ B2 ∧ w.heap.size + 1 ≠ B1 ∧ w.heap.size + 1 ≠ B2 by have := hk.1.lt; have := hk.2.lt; exact ⟨hne, trivial, by omega, by omega, by omega, by omega⟩)
  have HVi := Lib.hid hi
  have HVa := Lib.hid ha
  clear hi ha
  obtain ⟨D1, hown1, hD1⟩ := HK.out.1
  have HD1 := Lib.hid hD1
  have HK2 := Lib.hid HK.out.2
  clear hD1 hk hd hn hne HK
  go_enter Try.func44, Try.ntmps44
  go_wp2_with (first | (at_delete; refine wpList_delete_own _ rfl _ _ 75 3 rfl 3 mlaw Try.underlying75 _ B1 n D1 rfl hown1 _ _ rfl (keyOf_int_mk Try.underlying3 HVd.out.lit) ?_; intro w1 hown2 hturn1; have hM1 : Mu B1 B2 _ w1 := Mu.grown1 hturn1.grown; have hK1 := hM1.bk HB.out.2.1 HNe.out.2.2.1 HNe.out.2.2.2.1; have hO1 := hM1.bk HB.out.2.2 HNe.out.2.2.2.2.1 HNe.out.2.2.2.2.2; have k0 := hK1.cell 0; have k1 := hK1.cell 1; have o0 := hO1.cell 0; have o1 := hO1.cell 1; have o2 := hO1.cell 2; have o4 := hO1.cell 4; have HM2 := Lib.hid (HK2.out.kept (hM1.keeps2 hturn1.grown HK2.out.lt HNe.out.1)); have HX := Lib.hid (And.intro hM1 (And.intro hK1 (And.intro hO1 (And.intro hown2 hturn1)))); clear hM1 hK1 hO1 hown2 hturn1) | fail)
  refine (deletefunc_any s.cp B2 n (w.heap.size + 1) d _ HM2.out o1).mono ?_
  rintro e w2 ⟨rfl, hcut, hg2⟩
  have hM2 : Mu B1 B2 _ w2 := Mu.grown2 hg2
  have hK2 := hM2.bk HX.out.2.1 HNe.out.2.2.1 HNe.out.2.2.2.1
  have hO2 := hM2.bk HX.out.2.2.1 HNe.out.2.2.2.2.1 HNe.out.2.2.2.2.2
  clear k0 k1 o0 o1 o2 o4
  have k0 := hK2.cell 0
  have k1 := hK2.cell 1
  have o0 := hO2.cell 0
  have o1 := hO2.cell 1
  have o2 := hO2.cell 2
  have o4 := hO2.cell 4
  have HC := Lib.hid hcut
  have hl1 := HX.out.2.2.2.1.lt
  have HW1 := Lib.hid (show MapF w2 B1 n (Fo.upd s.wd d none) from MapF.kept ⟨_, HX.out.2.2.2.1, fun z hz => mapf_del HD1.out z hz⟩ (hg2.block B1 hl1 (fun e => HNe.out.1 (by injection e))))
  have HM := Lib.hid (((Mu.of_below HB.out.1).trans HX.out.1).trans hM2)
  clear hcut hg2 hM2 hK2 hO2 HX HM2
  go_wp2
  go_end0
  rw [Fo.learn_0 (.inr (.inl rfl))]
  exact ⟨rfl, ⟨HW1.out.more (Nat.le_succ _), HC.out.more (Nat.le_succ _)⟩, HM.out⟩
set_option maxHeartbeats 4000000 in
theorem learn_4 (s : Fo.S) (B1 B2 n : Nat) (d a b i : Int) (w : World) (hk : Kn w B1 B2 n s) (hd : Wf d) (ha : Wf a) (hi : Wf i) (hn : n < 4611686018427387904) (hne : B1 ≠ B2) :
    Calls Try.prog 44 #[.agg #[.map (some B1), .map (some B2)], .agg #[.int .i64 4, .int .i64 d, .int .i64 a, .int .i64 b, .int .i64 i]] w fun e w' => e = .returned (.tuple #[]) ∧ Kn w' B1 B2 (n + 1) (Fo.learn s ⟨4, d, a, b, i⟩) ∧ Mu B1 B2 w w' := by
  have HB := Lib.hid (b2_new0 w #[.map (some B1), .map (some B2)] #[.int .i64 4, .int .i64 d, .int .i64 a, .int .i64 b, .int .i64 i])
  have HK := Lib.hid (hk.below HB.out.1)
  have HVd := Lib.hid hd
  have HN := Lib.hid hn
  have HNe := Lib.hid (show B1 ≠ B2 ∧ True ∧ w.heap.size ≠ B1 ∧ w.heap.size ≠ B2 ∧ w.heap.size + 1 ≠ B1 ∧ w.heap.size + 1 ≠ B2 by have := hk.1.lt; have := hk.2.lt; exact ⟨hne, trivial, by omega, by omega, by omega, by omega⟩)
  have HVi := Lib.hid hi
  have HVa := Lib.hid ha
  clear hi ha
  obtain ⟨D1, hown1, hD1⟩ := HK.out.1
  have HD1 := Lib.hid hD1
  have HK2 := Lib.hid HK.out.2
  clear hD1 hk hd hn hne HK
  go_enter Try.func44, Try.ntmps44
  go_wp2_with (first | (at_delete; refine wpList_delete_own _ rfl _ _ 75 3 rfl 3 mlaw Try.underlying75 _ B1 n D1 rfl hown1 _ _ rfl (keyOf_int_mk Try.underlying3 HVd.out.lit) ?_; intro w1 hown2 hturn1; have hM1 : Mu B1 B2 _ w1 := Mu.grown1 hturn1.grown; have hK1 := hM1.bk HB.out.2.1 HNe.out.2.2.1 HNe.out.2.2.2.1; have hO1 := hM1.bk HB.out.2.2 HNe.out.2.2.2.2.1 HNe.out.2.2.2.2.2; have k0 := hK1.cell 0; have k1 := hK1.cell 1; have o0 := hO1.cell 0; have o1 := hO1.cell 1; have o2 := hO1.cell 2; have o4 := hO1.cell 4; have HM2 := Lib.hid (HK2.out.kept (hM1.keeps2 hturn1.grown HK2.out.lt HNe.out.1)); have HX := Lib.hid (And.intro hM1 (And.intro hK1 (And.intro hO1 (And.intro hown2 hturn1)))); clear hM1 hK1 hO1 hown2 hturn1) | fail)
  refine (deletefunc_any s.cp B2 n (w.heap.size + 1) d _ HM2.out o1).mono ?_
  rintro e w2 ⟨rfl, hcut, hg2⟩
  have hM2 : Mu B1 B2 _ w2 := Mu.grown2 hg2
  have hK2 := hM2.bk HX.out.2.1 HNe.out.2.2.1 HNe.out.2.2.2.1
  have hO2 := hM2.bk HX.out.2.2.1 HNe.out.2.2.2.2.1 HNe.out.2.2.2.2.2
  clear k0 k1 o0 o1 o2 o4
  have k0 := hK2.cell 0
  have k1 := hK2.cell 1
  have o0 := hO2.cell 0
  have o1 := hO2.cell 1
  have o2 := hO2.cell 2
  have o4 := hO2.cell 4
  have HC := Lib.hid hcut
  have hl1 := HX.out.2.2.2.1.lt
  have HW1 := Lib.hid (show MapF w2 B1 n (Fo.upd s.wd d none) from MapF.kept ⟨_, HX.out.2.2.2.1, fun z hz => mapf_del HD1.out z hz⟩ (hg2.block B1 hl1 (fun e => HNe.out.1 (by injection e))))
  have HM := Lib.hid (((Mu.of_below HB.out.1).trans HX.out.1).trans hM2)
  clear hcut hg2 hM2 hK2 hO2 HX HM2
  go_wp2
  go_end0
  rw [Fo.learn_0 (.inr (.inr rfl))]
  exact ⟨rfl, ⟨HW1.out.more (Nat.le_succ _), HC.out.more (Nat.le_succ _)⟩, HM.out⟩
/-- learn, for the operations that a graph can have. -/
theorem learn_any (s : Fo.S) (B1 B2 n : Nat) (kd d a b i : Int) (w : World) (hkd : 1 ≤ kd ∧ kd ≤ 7) (hk : Kn w B1 B2 n s) (hd : Wf d) (ha : Wf a) (hi : Wf i) (hn : n < 4611686018427387904) (hne : B1 ≠ B2) :
    Calls Try.prog 44 #[.agg #[.map (some B1), .map (some B2)], .agg #[.int .i64 kd, .int .i64 d, .int .i64 a, .int .i64 b, .int .i64 i]] w fun e w' => e = .returned (.tuple #[]) ∧ Kn w' B1 B2 (n + 1) (Fo.learn s ⟨kd, d, a, b, i⟩) ∧ Mu B1 B2 w w' := by
  have h : kd = 1 ∨ kd = 2 ∨ kd = 3 ∨ kd = 4 ∨ kd = 5 ∨ kd = 6 ∨ kd = 7 := by omega
  rcases h with rfl | rfl | rfl | rfl | rfl | rfl | rfl
  · exact learn_1 s B1 B2 n d a b i w hk hd ha hi hn hne
  · by_cases had : a = d
    · exact learn_2s s B1 B2 n d a b i had w hk hd ha hi hn hne
    · exact learn_2 s B1 B2 n d a b i had w hk hd ha hi hn hne
  · exact learn_3 s B1 B2 n d a b i w hk hd ha hi hn hne
  · exact learn_4 s B1 B2 n d a b i w hk hd ha hi hn hne
  · exact learn_5 s B1 B2 n d a b i w hk
  · exact learn_6 s B1 B2 n d a b i w hk
  · exact learn_7 s B1 B2 n d a b i w hk
end Go.Proofs.Ytojnhdkclabkgaa
