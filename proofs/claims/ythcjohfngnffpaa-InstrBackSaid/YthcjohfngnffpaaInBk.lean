/- The law InstrBack: it answers true. No condition. -/
import Derived.Test.YthcjohfngnffpaaInAg
import Derived.Test.YthcjohfngnffpaaInOf
import Derived.Deep.RegionHeld3
import Derived.Laws.Concat
import Derived.Laws.StructEq
namespace Go.Proofs.Ythcjohfngnffpaa
open Go.RowKit
set_option linter.unusedVariables false
set_option linter.unusedSimpArgs false
attribute [local go_sem] y_undef
abbrev set6 (u : World) (g : Nat) (x : In.I) : World := (((((u.setCell ⟨g, 0, none⟩ (.int .i64 x.k)).setCell ⟨g, 1, none⟩ (.int .i64 x.a)).setCell ⟨g, 2, none⟩ (.int .i64 x.b)).setCell ⟨g, 3, none⟩ (.int .i64 x.c)).setCell ⟨g, 4, none⟩ (.int .i64 x.o)).setCell ⟨g, 5, none⟩ (.int .i64 x.m)
theorem set6_bk {u : World} {g : Nat} {x : In.I} {t : TypeId} {a b c d e f : Value} (h : Bk u g t #[a, b, c, d, e, f]) : Bk (set6 u g x) g t #[.int .i64 x.k, .int .i64 x.a, .int .i64 x.b, .int .i64 x.c, .int .i64 x.o, .int .i64 x.m] := by
  have := (((((h.set 0 (.int .i64 x.k)).set 1 (.int .i64 x.a)).set 2 (.int .i64 x.b)).set 3 (.int .i64 x.c)).set 4 (.int .i64 x.o)).set 5 (.int .i64 x.m)
  simpa using this
theorem set6_far {u : World} {g h : Nat} {x : In.I} {t : TypeId} {cs : Array Value} (hb : Bk u h t cs) (hne : h ≠ g) : Bk (set6 u g x) h t cs :=
  ((((((hb.far (p := ⟨g, 0, none⟩) hne _).far (p := ⟨g, 1, none⟩) hne _).far (p := ⟨g, 2, none⟩) hne _).far (p := ⟨g, 3, none⟩) hne _).far (p := ⟨g, 4, none⟩) hne _).far (p := ⟨g, 5, none⟩) hne _)
theorem set6_below {B : Nat} {w u : World} {g : Nat} {x : In.I} (h : Below B w u) (hg : B ≤ g) : Below B w (set6 u g x) :=
  (((((h.setCell (p := ⟨g, 0, none⟩) hg _).setCell (p := ⟨g, 1, none⟩) hg _).setCell (p := ⟨g, 2, none⟩) hg _).setCell (p := ⟨g, 3, none⟩) hg _).setCell (p := ⟨g, 4, none⟩) hg _).setCell (p := ⟨g, 5, none⟩) hg _
/-- The boxes of the two instructions. -/
structure Tb2 (w : World) (O1 O2 : Nat) (x y : In.I) (u : World) : Prop where
  bel : Below w.heap.size w u
  b1 : Bk u O1 26 #[.int .i64 x.k, .int .i64 x.a, .int .i64 x.b, .int .i64 x.c, .int .i64 x.o, .int .i64 x.m]
  b2 : Bk u O2 26 #[.int .i64 y.k, .int .i64 y.a, .int .i64 y.b, .int .i64 y.c, .int .i64 y.o, .int .i64 y.m]
theorem Tb2.below {w u u' : World} {O1 O2 : Nat} {x y : In.I} (h : Tb2 w O1 O2 x y u) (hb : Below u.heap.size u u') : Tb2 w O1 O2 x y u' := ⟨blt h.bel hb, h.b1.below hb, h.b2.below hb⟩
theorem Tb2.make {w W0 u : World} {O1 O2 : Nat} {x y : In.I} (hw : Below w.heap.size w W0) (hS : Below W0.heap.size W0 u) (h1 : Bk u O1 26 #[.int .i64 0, .int .i64 0, .int .i64 0, .int .i64 0, .int .i64 0, .int .i64 0]) (h2 : Bk u O2 26 #[.int .i64 0, .int .i64 0, .int .i64 0, .int .i64 0, .int .i64 0, .int .i64 0]) (hne : O1 ≠ O2) (l1 : W0.heap.size ≤ O1) (l2 : W0.heap.size ≤ O2) : Tb2 w O1 O2 x y (set6 (set6 u O1 x) O2 y) :=
  ⟨blt hw (set6_below (set6_below hS l1) l2), set6_far (set6_bk h1) hne, set6_bk (set6_far h2 (fun e => hne e.symm))⟩
/-- The row of two instructions. -/
theorem lit_in2 (u : World) (x y : In.I) (g : Nat) (hg : g = u.heap.size) : InsL (u.alloc (.cells #[.int .i64 x.k, .int .i64 x.a, .int .i64 x.b, .int .i64 x.c, .int .i64 x.o, .int .i64 x.m, .int .i64 y.k, .int .i64 y.a, .int .i64 y.b, .int .i64 y.c, .int .i64 y.o, .int .i64 y.m] 26)) (.slice (some ⟨g, 0, none⟩) 2 2) [x, y] := by
  subst hg
  refine ⟨_, 2, rfl, rfl, .inr ⟨_, 0, rfl, by simp, fun j z hj => ?_⟩⟩
  have hb := heap_alloc_new u (.cells #[.int .i64 x.k, .int .i64 x.a, .int .i64 x.b, .int .i64 x.c, .int .i64 x.o, .int .i64 x.m, .int .i64 y.k, .int .i64 y.a, .int .i64 y.b, .int .i64 y.c, .int .i64 y.o, .int .i64 y.m] 26)
  rw [cell_of_row _ _ _ _ _ _ hb, Nat.zero_add]
  simpa [iCells] using hj
namespace In
theorem bk_facts {x y : I} (hx : chk x = 0) (hy : chk y = 0) : eno [x, y] = 0 ∧ enb [x, y] = en x ++ en y ∧ eno [x] = 0 ∧ enb [x] = en x ∧ eno [y] = 0 ∧ enb [y] = en y ∧ dno (en x ++ en y) = 0 ∧ dl (en x ++ en y) = [x, y] := by
  have e2 : eno [x, y] = 0 := by unfold eno; rw [if_neg (by simp)]; exact err_all (by simp [hx, hy])
  have ex : eno [x] = 0 := by unfold eno; rw [if_neg (by simp)]; exact err_all (by simp [hx])
  have ey : eno [y] = 0 := by unfold eno; rw [if_neg (by simp)]; exact err_all (by simp [hy])
  have hf : des (en x ++ en y) 2 = [x, y] := by
    have := des_flat [x, y] (by intro i hi; simp at hi; rcases hi with rfl | rfl; exact V.of hx; exact V.of hy)
    simpa using this
  have hl : (en x ++ en y).length = 16 := rfl
  have hg : good (en x ++ en y) = true := by
    unfold good
    rw [hl, show (16 : Nat) / 8 = 2 from rfl, hf]
    simp [hx, hy]
  refine ⟨e2, by simp [enb, e2], ex, by simp [enb, ex], ey, by simp [enb, ey], by unfold dno; rw [if_pos hg], ?_⟩
  unfold dl
  rw [if_pos hg, hl]
  exact hf
theorem en_inj {x y : I} (hx : chk x = 0) (hy : chk y = 0) (h : en x = en y) : x = y := by
  have h1 := (bk_facts hx hx).2.2.2.2.2.2.2
  have h2 := (bk_facts hy hy).2.2.2.2.2.2.2
  rw [h, h2] at h1
  simp at h1
  exact h1.symm
end In
structure BkF (x y : In.I) (P Q R : List Int) (sP sQ sR : ByteArray) (r : Bool) : Prop where
  e2 : In.eno [x, y] = 0
  b2 : In.enb [x, y] = P
  ex : In.eno [x] = 0
  bx : In.enb [x] = Q
  ey : In.eno [y] = 0
  by_ : In.enb [y] = R
  dn : In.dno P = 0
  dl : In.dl P = [x, y]
  len : P.length = 16
  rng : ∀ z ∈ P, 0 ≤ z ∧ z ≤ 255
  tP : strOfNums P = sP
  tQ : strOfNums Q = sQ
  tR : strOfNums R = sR
  eq : decide (x = y) = r
  same : (sQ.toList == sR.toList) = r
  cat : ∀ w : World, (Op.stringOp .add sQ sR).run Try.prog w = .ok (.string sP) w
theorem bkf_of {x y : In.I} (hx : In.chk x = 0) (hy : In.chk y = 0) : ∃ P Q R sP sQ sR r, BkF x y P Q R sP sQ sR r := by
  obtain ⟨h1, h2, h3, h4, h5, h6, h7, h8⟩ := In.bk_facts hx hy
  refine ⟨_, _, _, _, _, _, _, h1, h2, h3, h4, h5, h6, h7, h8, rfl, ?_, rfl, rfl, rfl, rfl, ?_, ?_⟩
  · intro z hz
    rcases List.mem_append.1 hz with h | h
    · exact In.en_in x z h
    · exact In.en_in y z h
  · by_cases h : x = y
    · subst h; simp
    · have hne : ¬ (strOfNums (In.en x)).toList = (strOfNums (In.en y)).toList := fun e => h (In.en_inj hx hy (str_inj (In.en_in x) (In.en_in y) (ByteArray.ext (Array.ext' (by rw [Lib.toList_data, Lib.toList_data] at e; exact e)))))
      simp [h, hne]
  · intro w
    rw [str_append]
    exact run_string_add_sum w _ _ (by rw [strOfNums_size, strOfNums_size, In.en_len, In.en_len]; omega)
set_option maxRecDepth 100000 in
set_option maxHeartbeats 40000000 in
theorem back_law (k a b c n h0 h1 h2 h3 m : Int) (hk : 0 ≤ k ∧ k ≤ 255) (ha : 0 ≤ a ∧ a ≤ 255) (hb : 0 ≤ b ∧ b ≤ 255) (hc : 0 ≤ c ∧ c ≤ 255) (hn : -2147483648 ≤ n ∧ n ≤ 2147483647) (hh0 : 0 ≤ h0 ∧ h0 ≤ 255) (hh1 : 0 ≤ h1 ∧ h1 ≤ 255) (hh2 : 0 ≤ h2 ∧ h2 ≤ 255) (hh3 : 0 ≤ h3 ∧ h3 ≤ 255) (hm : -2147483648 ≤ m ∧ m ≤ 2147483647) (w : World) :
    Calls Try.prog 4 #[.int .u8 k, .int .u8 a, .int .u8 b, .int .u8 c, .int .i32 n, .agg #[.int .u8 h0, .int .u8 h1, .int .u8 h2, .int .u8 h3], .int .i32 m] w fun e w' => e = .returned (.bool true) ∧ Below w.heap.size w w' := by
  obtain ⟨x, hx⟩ : ∃ x, In.of (k % 220) a b c n = x := ⟨_, rfl⟩
  obtain ⟨y, hy⟩ : ∃ y, In.of (h0 % 220) h1 h2 h3 m = y := ⟨_, rfl⟩
  have cx : In.chk x = 0 := by rw [← hx]; unfold In.of; rw [if_neg (by omega)]; exact In.of_ok _ _ _ _ _ hn
  have cy : In.chk y = 0 := by rw [← hy]; unfold In.of; rw [if_neg (by omega)]; exact In.of_ok _ _ _ _ _ hm
  have tk : k.tmod 220 = k % 220 := Int.tmod_eq_emod_of_nonneg hk.1
  have th : h0.tmod 220 = h0 % 220 := Int.tmod_eq_emod_of_nonneg hh0.1
  have HX := Lib.hid (of_any (k % 220) a b c n ⟨by omega, by omega⟩ ha hb hc hn x hx)
  have HY := Lib.hid (of_any (h0 % 220) h1 h2 h3 m ⟨by omega, by omega⟩ hh1 hh2 hh3 hm y hy)
  rw [← tk] at HX
  rw [← th] at HY
  clear tk th hx hy hk ha hb hc hn hh0 hh1 hh2 hh3 hm
  obtain ⟨P, Q, R, sP, sQ, sR, r, hF⟩ := bkf_of cx cy
  have HF := Lib.hid hF
  clear hF cx cy
  obtain ⟨xk, xa, xb, xc, xo, xm⟩ := x
  obtain ⟨yk, ya, yb, yc, yo, ym⟩ := y
  unfold iAgg at HX HY
  simp only at HX HY
  have HW := Lib.hid (bla (Below.refl w.heap.size w) (.cells #[.int .u8 h0, .int .u8 h1, .int .u8 h2, .int .u8 h3] 35))
  obtain ⟨W0, hW0⟩ : ∃ W0, w.alloc (.cells #[.int .u8 h0, .int .u8 h1, .int .u8 h2, .int .u8 h3] 35) = W0 := ⟨_, rfl⟩
  have hbk : Bk W0 w.heap.size 35 #[.int .u8 h0, .int .u8 h1, .int .u8 h2, .int .u8 h3] := by rw [← hW0]; exact Bk.new w _ _
  rw [hW0] at HW
  go_enter Try.func4, Try.ntmps4
  go_upto_region 1 with fail
  clear hW0
  have q0 := hbk.cell 0
  have q1 := hbk.cell 1
  have q2 := hbk.cell 2
  have q3 := hbk.cell 3
  have hlt0 := hbk.lt
  simp at q0 q1 q2 q3
  clear hbk
  go_cut [15, 16] from 25 to 43 (fun p q wc => ∃ O1 O2 : Nat, p = .pointer (some ⟨O1, 0, none⟩) ∧ q = .pointer (some ⟨O2, 0, none⟩) ∧ Hid (Tb2 w O1 O2 ⟨xk, xa, xb, xc, xo, xm⟩ ⟨yk, ya, yb, yc, yo, ym⟩ wc))
  case first =>
    clear HF
    refine wp_region_held_drew (S := (fun u : World => Below W0.heap.size W0 u)) (by kernel_rfl) (below_drewN _ _ 1) (fun hHeld => ?_)
    obtain ⟨u0a, hu0⟩ : ∃ u, W0.drew = u := ⟨_, rfl⟩
    rw [hu0] at hHeld ⊢
    have hb0 : Below W0.heap.size W0 u0a := by rw [← hu0]; exact below_drewN _ _ 1
    clear hu0
    refine' wpAnyH_take (i := 0) (v := _) ?_ ?_ ?_ ?_ ?_ ?_ ?_ ?_
    rotate_left 2
    focus (simp only [List.getElem?_toArray, List.getElem?_cons_succ, List.getElem?_cons_zero]; rfl)
    focus kernel_rfl
    focus kernel_rfl
    focus kernel_rfl
    focus exact (fun _ _ _ h => h)
    refine Or.inl ⟨?_, ?_⟩
    focus (go_simp; done)
    focus (intro wS hSw; (first | (go_simp; done) | (go_simp; with_reducible rfl)))
    focus assumption
    (try simp only [Act.put, List.setIfInBounds_toArray, List.set_cons_zero, List.set_cons_succ])
    refine' wpAnyH_take (i := 1) (v := _) ?_ ?_ ?_ ?_ ?_ ?_ ?_ ?_
    rotate_left 2
    focus (simp only [List.getElem?_toArray, List.getElem?_cons_succ, List.getElem?_cons_zero]; rfl)
    focus kernel_rfl
    focus kernel_rfl
    focus kernel_rfl
    focus exact (fun _ _ _ h => h)
    refine Or.inl ⟨?_, ?_⟩
    focus (go_simp; done)
    focus (intro wS hSw; (first | (go_simp; done) | (go_simp; with_reducible rfl)))
    focus assumption
    (try simp only [Act.put, List.setIfInBounds_toArray, List.set_cons_zero, List.set_cons_succ])
    refine' wpAnyH_take (i := 2) (v := _) ?_ ?_ ?_ ?_ ?_ ?_ ?_ ?_
    rotate_left 2
    focus (simp only [List.getElem?_toArray, List.getElem?_cons_succ, List.getElem?_cons_zero]; rfl)
    focus kernel_rfl
    focus kernel_rfl
    focus kernel_rfl
    focus exact (fun _ _ _ h => h)
    refine Or.inl ⟨?_, ?_⟩
    focus (go_simp; done)
    focus (intro wS hSw; (first | (go_simp; done) | (go_simp; with_reducible rfl)))
    focus assumption
    (try simp only [Act.put, List.setIfInBounds_toArray, List.set_cons_zero, List.set_cons_succ])
    refine' wpAnyH_take (i := 3) (v := _) ?_ ?_ ?_ ?_ ?_ ?_ ?_ ?_
    rotate_left 2
    focus (simp only [List.getElem?_toArray, List.getElem?_cons_succ, List.getElem?_cons_zero]; rfl)
    focus kernel_rfl
    focus kernel_rfl
    focus kernel_rfl
    focus exact (fun _ _ _ h => h)
    refine Or.inl ⟨?_, ?_⟩
    focus (go_simp; done)
    focus (intro wS hSw; (first | (go_simp; done) | (go_simp; with_reducible rfl)))
    focus assumption
    (try simp only [Act.put, List.setIfInBounds_toArray, List.set_cons_zero, List.set_cons_succ])
    refine' wpAnyH_take (i := 4) (v := _) ?_ ?_ ?_ ?_ ?_ ?_ ?_ ?_
    rotate_left 2
    focus (simp only [List.getElem?_toArray, List.getElem?_cons_succ, List.getElem?_cons_zero]; rfl)
    focus kernel_rfl
    focus kernel_rfl
    focus kernel_rfl
    focus exact (fun _ _ _ h => h)
    refine Or.inl ⟨?_, ?_⟩
    focus (go_simp; done)
    focus (intro wS hSw; (first | (go_simp; done) | (go_simp; with_reducible rfl)))
    focus assumption
    (try simp only [Act.put, List.setIfInBounds_toArray, List.set_cons_zero, List.set_cons_succ])
    refine' wpAnyH_take (i := 5) (v := _) ?_ ?_ ?_ ?_ ?_ ?_ ?_ ?_
    rotate_left 2
    focus (simp only [List.getElem?_toArray, List.getElem?_cons_succ, List.getElem?_cons_zero]; rfl)
    focus kernel_rfl
    focus kernel_rfl
    focus kernel_rfl
    focus exact (fun _ _ _ h => h)
    refine Or.inl ⟨?_, ?_⟩
    focus (go_simp; done)
    focus (intro wS hSw; (first | (go_simp; done) | (go_simp; with_reducible rfl)))
    focus assumption
    (try simp only [Act.put, List.setIfInBounds_toArray, List.set_cons_zero, List.set_cons_succ])
    refine' wpAnyH_take (i := 7) (v := _) ?_ ?_ ?_ ?_ ?_ ?_ ?_ ?_
    rotate_left 2
    focus (simp only [List.getElem?_toArray, List.getElem?_cons_succ, List.getElem?_cons_zero]; rfl)
    focus kernel_rfl
    focus kernel_rfl
    focus kernel_rfl
    focus exact (fun _ _ _ h => h)
    refine Or.inl ⟨?_, ?_⟩
    focus (go_simp; done)
    focus (intro wS hSw; (first | (go_simp; done) | (go_simp; with_reducible rfl)))
    focus assumption
    (try simp only [Act.put, List.setIfInBounds_toArray, List.set_cons_zero, List.set_cons_succ])
    refine' wpAnyH_take (i := 8) (v := _) ?_ ?_ ?_ ?_ ?_ ?_ ?_ ?_
    rotate_left 2
    focus (simp only [List.getElem?_toArray, List.getElem?_cons_succ, List.getElem?_cons_zero]; rfl)
    focus kernel_rfl
    focus kernel_rfl
    focus kernel_rfl
    focus exact (fun _ _ _ h => h)
    refine Or.inl ⟨?_, ?_⟩
    focus (go_simp; done)
    focus (intro wS hSw; have g0 := (hSw.cell (p := ⟨w.heap.size, 0, none⟩) hlt0).trans q0; have g1 := (hSw.cell (p := ⟨w.heap.size, 1, none⟩) hlt0).trans q1; have g2 := (hSw.cell (p := ⟨w.heap.size, 2, none⟩) hlt0).trans q2; have g3 := (hSw.cell (p := ⟨w.heap.size, 3, none⟩) hlt0).trans q3; (first | (go_simp; done) | (go_simp; with_reducible rfl)))
    focus assumption
    (try simp only [Act.put, List.setIfInBounds_toArray, List.set_cons_zero, List.set_cons_succ])
    refine' wpAnyH_take (i := 9) (v := _) ?_ ?_ ?_ ?_ ?_ ?_ ?_ ?_
    rotate_left 2
    focus (simp only [List.getElem?_toArray, List.getElem?_cons_succ, List.getElem?_cons_zero]; rfl)
    focus kernel_rfl
    focus kernel_rfl
    focus kernel_rfl
    focus exact (fun _ _ _ h => h)
    refine Or.inl ⟨?_, ?_⟩
    focus (go_simp; done)
    focus (intro wS hSw; (first | (go_simp; done) | (go_simp; with_reducible rfl)))
    focus assumption
    (try simp only [Act.put, List.setIfInBounds_toArray, List.set_cons_zero, List.set_cons_succ])
    refine' wpAnyH_take (i := 10) (v := _) ?_ ?_ ?_ ?_ ?_ ?_ ?_ ?_
    rotate_left 2
    focus (simp only [List.getElem?_toArray, List.getElem?_cons_succ, List.getElem?_cons_zero]; rfl)
    focus kernel_rfl
    focus kernel_rfl
    focus kernel_rfl
    focus exact (fun _ _ _ h => h)
    refine Or.inl ⟨?_, ?_⟩
    focus (go_simp; done)
    focus (intro wS hSw; (first | (go_simp; done) | (go_simp; with_reducible rfl)))
    focus assumption
    (try simp only [Act.put, List.setIfInBounds_toArray, List.set_cons_zero, List.set_cons_succ])
    refine' wpAnyH_take (i := 11) (v := _) ?_ ?_ ?_ ?_ ?_ ?_ ?_ ?_
    rotate_left 2
    focus (simp only [List.getElem?_toArray, List.getElem?_cons_succ, List.getElem?_cons_zero]; rfl)
    focus kernel_rfl
    focus kernel_rfl
    focus kernel_rfl
    focus exact (fun _ _ _ h => h)
    refine Or.inl ⟨?_, ?_⟩
    focus (go_simp; done)
    focus (intro wS hSw; have g0 := (hSw.cell (p := ⟨w.heap.size, 0, none⟩) hlt0).trans q0; have g1 := (hSw.cell (p := ⟨w.heap.size, 1, none⟩) hlt0).trans q1; have g2 := (hSw.cell (p := ⟨w.heap.size, 2, none⟩) hlt0).trans q2; have g3 := (hSw.cell (p := ⟨w.heap.size, 3, none⟩) hlt0).trans q3; (first | (go_simp; done) | (go_simp; with_reducible rfl)))
    focus assumption
    (try simp only [Act.put, List.setIfInBounds_toArray, List.set_cons_zero, List.set_cons_succ])
    refine' wpAnyH_take (i := 12) (v := _) ?_ ?_ ?_ ?_ ?_ ?_ ?_ ?_
    rotate_left 2
    focus (simp only [List.getElem?_toArray, List.getElem?_cons_succ, List.getElem?_cons_zero]; rfl)
    focus kernel_rfl
    focus kernel_rfl
    focus kernel_rfl
    focus exact (fun _ _ _ h => h)
    refine Or.inl ⟨?_, ?_⟩
    focus (go_simp; done)
    focus (intro wS hSw; (first | (go_simp; done) | (go_simp; with_reducible rfl)))
    focus assumption
    (try simp only [Act.put, List.setIfInBounds_toArray, List.set_cons_zero, List.set_cons_succ])
    refine' wpAnyH_take (i := 13) (v := _) ?_ ?_ ?_ ?_ ?_ ?_ ?_ ?_
    rotate_left 2
    focus (simp only [List.getElem?_toArray, List.getElem?_cons_succ, List.getElem?_cons_zero]; rfl)
    focus kernel_rfl
    focus kernel_rfl
    focus kernel_rfl
    focus exact (fun _ _ _ h => h)
    refine Or.inl ⟨?_, ?_⟩
    focus (go_simp; done)
    focus (intro wS hSw; have g0 := (hSw.cell (p := ⟨w.heap.size, 0, none⟩) hlt0).trans q0; have g1 := (hSw.cell (p := ⟨w.heap.size, 1, none⟩) hlt0).trans q1; have g2 := (hSw.cell (p := ⟨w.heap.size, 2, none⟩) hlt0).trans q2; have g3 := (hSw.cell (p := ⟨w.heap.size, 3, none⟩) hlt0).trans q3; (first | (go_simp; done) | (go_simp; with_reducible rfl)))
    focus assumption
    (try simp only [Act.put, List.setIfInBounds_toArray, List.set_cons_zero, List.set_cons_succ])
    refine' wpAnyH_take (i := 14) (v := _) ?_ ?_ ?_ ?_ ?_ ?_ ?_ ?_
    rotate_left 2
    focus (simp only [List.getElem?_toArray, List.getElem?_cons_succ, List.getElem?_cons_zero]; rfl)
    focus kernel_rfl
    focus kernel_rfl
    focus kernel_rfl
    focus exact (fun _ _ _ h => h)
    refine Or.inl ⟨?_, ?_⟩
    focus (go_simp; done)
    focus (intro wS hSw; (first | (go_simp; done) | (go_simp; with_reducible rfl)))
    focus assumption
    (try simp only [Act.put, List.setIfInBounds_toArray, List.set_cons_zero, List.set_cons_succ])
    refine' wpAnyH_take (i := 15) (v := _) ?_ ?_ ?_ ?_ ?_ ?_ ?_ ?_
    rotate_left 2
    focus (simp only [List.getElem?_toArray, List.getElem?_cons_succ, List.getElem?_cons_zero]; rfl)
    focus kernel_rfl
    focus kernel_rfl
    focus kernel_rfl
    focus exact (fun _ _ _ h => h)
    refine Or.inl ⟨?_, ?_⟩
    focus (go_simp; done)
    focus (intro wS hSw; have g0 := (hSw.cell (p := ⟨w.heap.size, 0, none⟩) hlt0).trans q0; have g1 := (hSw.cell (p := ⟨w.heap.size, 1, none⟩) hlt0).trans q1; have g2 := (hSw.cell (p := ⟨w.heap.size, 2, none⟩) hlt0).trans q2; have g3 := (hSw.cell (p := ⟨w.heap.size, 3, none⟩) hlt0).trans q3; (first | (go_simp; done) | (go_simp; with_reducible rfl)))
    focus assumption
    (try simp only [Act.put, List.setIfInBounds_toArray, List.set_cons_zero, List.set_cons_succ])
    refine' wpAnyH_take (i := 16) (v := _) ?_ ?_ ?_ ?_ ?_ ?_ ?_ ?_
    rotate_left 2
    focus (simp only [List.getElem?_toArray, List.getElem?_cons_succ, List.getElem?_cons_zero]; rfl)
    focus kernel_rfl
    focus kernel_rfl
    focus kernel_rfl
    focus exact (fun _ _ _ h => h)
    refine Or.inl ⟨?_, ?_⟩
    focus (go_simp; done)
    focus (intro wS hSw; (first | (go_simp; done) | (go_simp; with_reducible rfl)))
    focus assumption
    (try simp only [Act.put, List.setIfInBounds_toArray, List.set_cons_zero, List.set_cons_succ])
    refine wpAnyH_ready (rs := [6, 18, 19]) (by kernel_rfl) (by simp) ?_
    refine' AllReadyH.cons ?_ (fun K hK => ?_) ?_
    rotate_left
    focus (simp only [List.getElem?_toArray, List.getElem?_cons_succ, List.getElem?_cons_zero]; rfl)
    · go_simp
      go_at_call 6
      refine (HX.out u0a).mono ?_
      rintro e u1a ⟨rfl, hb⟩
    
      have hS := blt hHeld hb
      clear hb
      refine hK.out _ _ (hS) (fun hH2 => ?_)
      clear hK K hHeld
      have hHeld := hH2
      clear hH2
      (try simp only [Act.put, List.setIfInBounds_toArray, List.set_cons_zero, List.set_cons_succ])
      clear hS
      refine wpAnyH_ready (rs := [17, 18, 19]) (by kernel_rfl) (by simp) ?_
      refine' AllReadyH.cons ?_ (fun K hK => ?_) ?_
      rotate_left
      focus (simp only [List.getElem?_toArray, List.getElem?_cons_succ, List.getElem?_cons_zero]; rfl)
      · go_simp
        go_at_call 6
        refine (HY.out u1a).mono ?_
        rintro e u2a ⟨rfl, hb⟩
    
        have hS := blt hHeld hb
        clear hb
        refine hK.out _ _ (hS) (fun hH2 => ?_)
        clear hK K hHeld
        have hHeld := hH2
        clear hH2
        (try simp only [Act.put, List.setIfInBounds_toArray, List.set_cons_zero, List.set_cons_succ])
        clear hS
        refine wpAnyH_ready (rs := [18, 19]) (by kernel_rfl) (by simp) ?_
        refine' AllReadyH.cons ?_ (fun K hK => ?_) ?_
        rotate_left
        focus (simp only [List.getElem?_toArray, List.getElem?_cons_succ, List.getElem?_cons_zero]; rfl)
        · go_simp
          have hb : Below u2a.heap.size u2a (u2a.alloc (.cells #[.int .i64 0, .int .i64 0, .int .i64 0, .int .i64 0, .int .i64 0, .int .i64 0] 26)) := bla (Below.refl _ _) _
    
          have HO1 := Lib.hid (Bk.new u2a 26 #[.int .i64 0, .int .i64 0, .int .i64 0, .int .i64 0, .int .i64 0, .int .i64 0])
          have HL1 := Lib.hid (show W0.heap.size ≤ u2a.heap.size from hHeld.size)
          have hS := blt hHeld hb
          clear hb
          refine hK.out _ _ (hS) (fun hH2 => ?_)
          clear hK K hHeld
          have hHeld := hH2
          clear hH2
          (try simp only [Act.put, List.setIfInBounds_toArray, List.set_cons_zero, List.set_cons_succ])
          clear hS
          generalize u2a.alloc (.cells #[.int .i64 0, .int .i64 0, .int .i64 0, .int .i64 0, .int .i64 0, .int .i64 0] 26) = u3a at *
          generalize u2a.heap.size = O1 at *
          refine wpAnyH_ready (rs := [19]) (by kernel_rfl) (by simp) ?_
          refine' AllReadyH.cons ?_ (fun K hK => ?_) AllReadyH.nil
          rotate_left
          focus (simp only [List.getElem?_toArray, List.getElem?_cons_succ, List.getElem?_cons_zero]; rfl)
          go_simp
          have hb : Below u3a.heap.size u3a (u3a.alloc (.cells #[.int .i64 0, .int .i64 0, .int .i64 0, .int .i64 0, .int .i64 0, .int .i64 0] 26)) := bla (Below.refl _ _) _
          have HNE := Lib.hid (show O1 ≠ u3a.heap.size from Nat.ne_of_lt HO1.out.lt)
          replace HO1 := Lib.hid (HO1.out.below hb)
          have HO2 := Lib.hid (Bk.new u3a 26 #[.int .i64 0, .int .i64 0, .int .i64 0, .int .i64 0, .int .i64 0, .int .i64 0])
          have HL2 := Lib.hid (show W0.heap.size ≤ u3a.heap.size from hHeld.size)
          have hS := blt hHeld hb
          clear hb
          refine hK.out _ _ (hS) (fun hH2 => ?_)
          clear hK K hHeld
          have hHeld := hH2
          clear hH2
          (try simp only [Act.put, List.setIfInBounds_toArray, List.set_cons_zero, List.set_cons_succ])
          clear hS
          generalize u3a.alloc (.cells #[.int .i64 0, .int .i64 0, .int .i64 0, .int .i64 0, .int .i64 0, .int .i64 0] 26) = u4a at *
          generalize u3a.heap.size = O2 at *
          refine wpAnyH_ready (rs := [20]) (by kernel_rfl) (by simp) ?_
          refine' AllReadyH.cons ?_ (fun K hK => ?_) AllReadyH.nil
          rotate_left
          focus (simp only [List.getElem?_toArray, List.getElem?_cons_succ, List.getElem?_cons_zero]; rfl)
          have HH := Lib.hid hHeld
          have hz := HO1.out
          have z0 := hz.cell 0
          have z1 := hz.cell 1
          have z2 := hz.cell 2
          have z3 := hz.cell 3
          have z4 := hz.cell 4
          have z5 := hz.cell 5
          have zf := hz.frozen
          have zl := hz.lt
          simp at z0 z1 z2 z3 z4 z5
          go_simp
          have hS := set6_below (x := ⟨xk, xa, xb, xc, xo, xm⟩) hHeld HL1.out
          refine hK.out _ _ (hS) (fun hH2 => ?_)
          clear hK K hHeld
          have hHeld := hH2
          clear hH2
          (try simp only [Act.put, List.setIfInBounds_toArray, List.set_cons_zero, List.set_cons_succ])
          clear hS hz z0 z1 z2 z3 z4 z5 zf zl
          refine wpAnyH_ready (rs := [21]) (by kernel_rfl) (by simp) ?_
          refine' AllReadyH.cons ?_ (fun K hK => ?_) AllReadyH.nil
          rotate_left
          focus (simp only [List.getElem?_toArray, List.getElem?_cons_succ, List.getElem?_cons_zero]; rfl)
          have hz := set6_far (g := O1) (x := ⟨xk, xa, xb, xc, xo, xm⟩) HO2.out (by first | exact HNE.out | exact fun e => HNE.out e.symm)
          have z0 := hz.cell 0
          have z1 := hz.cell 1
          have z2 := hz.cell 2
          have z3 := hz.cell 3
          have z4 := hz.cell 4
          have z5 := hz.cell 5
          have zf := hz.frozen
          have zl := hz.lt
          unfold set6 at z0 z1 z2 z3 z4 z5 zf zl
          dsimp only at z0 z1 z2 z3 z4 z5 zf zl
          go_simp
          have hS := set6_below (x := ⟨yk, ya, yb, yc, yo, ym⟩) hHeld HL2.out
          refine hK.out _ _ (hS) (fun hH2 => ?_)
          clear hK K hHeld
          have hHeld := hH2
          clear hH2
          (try simp only [Act.put, List.setIfInBounds_toArray, List.set_cons_zero, List.set_cons_succ])
          clear hS hz z0 z1 z2 z3 z4 z5 zf zl
          refine wpAnyH_done (by kernel_rfl) ?_ _
          have hT := Tb2.make HW.out HH.out HO1.out HO2.out (by first | exact HNE.out | exact fun e => HNE.out e.symm) HL1.out HL2.out (x := ⟨xk, xa, xb, xc, xo, xm⟩) (y := ⟨yk, ya, yb, yc, yo, ym⟩)
          go_wp2
          go_meet
          exact ⟨O1, O2, rfl, rfl, Lib.hid hT⟩
        refine' AllReadyH.cons ?_ (fun K hK => ?_) AllReadyH.nil
        rotate_left
        focus (simp only [List.getElem?_toArray, List.getElem?_cons_succ, List.getElem?_cons_zero]; rfl)
        go_simp
        have hb : Below u2a.heap.size u2a (u2a.alloc (.cells #[.int .i64 0, .int .i64 0, .int .i64 0, .int .i64 0, .int .i64 0, .int .i64 0] 26)) := bla (Below.refl _ _) _
    
        have HO2 := Lib.hid (Bk.new u2a 26 #[.int .i64 0, .int .i64 0, .int .i64 0, .int .i64 0, .int .i64 0, .int .i64 0])
        have HL2 := Lib.hid (show W0.heap.size ≤ u2a.heap.size from hHeld.size)
        have hS := blt hHeld hb
        clear hb
        refine hK.out _ _ (hS) (fun hH2 => ?_)
        clear hK K hHeld
        have hHeld := hH2
        clear hH2
        (try simp only [Act.put, List.setIfInBounds_toArray, List.set_cons_zero, List.set_cons_succ])
        clear hS
        generalize u2a.alloc (.cells #[.int .i64 0, .int .i64 0, .int .i64 0, .int .i64 0, .int .i64 0, .int .i64 0] 26) = u7a at *
        generalize u2a.heap.size = O2 at *
        refine wpAnyH_ready (rs := [18]) (by kernel_rfl) (by simp) ?_
        refine' AllReadyH.cons ?_ (fun K hK => ?_) AllReadyH.nil
        rotate_left
        focus (simp only [List.getElem?_toArray, List.getElem?_cons_succ, List.getElem?_cons_zero]; rfl)
        go_simp
        have hb : Below u7a.heap.size u7a (u7a.alloc (.cells #[.int .i64 0, .int .i64 0, .int .i64 0, .int .i64 0, .int .i64 0, .int .i64 0] 26)) := bla (Below.refl _ _) _
        have HNE := Lib.hid (show O2 ≠ u7a.heap.size from Nat.ne_of_lt HO2.out.lt)
        replace HO2 := Lib.hid (HO2.out.below hb)
        have HO1 := Lib.hid (Bk.new u7a 26 #[.int .i64 0, .int .i64 0, .int .i64 0, .int .i64 0, .int .i64 0, .int .i64 0])
        have HL1 := Lib.hid (show W0.heap.size ≤ u7a.heap.size from hHeld.size)
        have hS := blt hHeld hb
        clear hb
        refine hK.out _ _ (hS) (fun hH2 => ?_)
        clear hK K hHeld
        have hHeld := hH2
        clear hH2
        (try simp only [Act.put, List.setIfInBounds_toArray, List.set_cons_zero, List.set_cons_succ])
        clear hS
        generalize u7a.alloc (.cells #[.int .i64 0, .int .i64 0, .int .i64 0, .int .i64 0, .int .i64 0, .int .i64 0] 26) = u8a at *
        generalize u7a.heap.size = O1 at *
        refine wpAnyH_ready (rs := [20]) (by kernel_rfl) (by simp) ?_
        refine' AllReadyH.cons ?_ (fun K hK => ?_) AllReadyH.nil
        rotate_left
        focus (simp only [List.getElem?_toArray, List.getElem?_cons_succ, List.getElem?_cons_zero]; rfl)
        have HH := Lib.hid hHeld
        have hz := HO1.out
        have z0 := hz.cell 0
        have z1 := hz.cell 1
        have z2 := hz.cell 2
        have z3 := hz.cell 3
        have z4 := hz.cell 4
        have z5 := hz.cell 5
        have zf := hz.frozen
        have zl := hz.lt
        simp at z0 z1 z2 z3 z4 z5
        go_simp
        have hS := set6_below (x := ⟨xk, xa, xb, xc, xo, xm⟩) hHeld HL1.out
        refine hK.out _ _ (hS) (fun hH2 => ?_)
        clear hK K hHeld
        have hHeld := hH2
        clear hH2
        (try simp only [Act.put, List.setIfInBounds_toArray, List.set_cons_zero, List.set_cons_succ])
        clear hS hz z0 z1 z2 z3 z4 z5 zf zl
        refine wpAnyH_ready (rs := [21]) (by kernel_rfl) (by simp) ?_
        refine' AllReadyH.cons ?_ (fun K hK => ?_) AllReadyH.nil
        rotate_left
        focus (simp only [List.getElem?_toArray, List.getElem?_cons_succ, List.getElem?_cons_zero]; rfl)
        have hz := set6_far (g := O1) (x := ⟨xk, xa, xb, xc, xo, xm⟩) HO2.out (by first | exact HNE.out | exact fun e => HNE.out e.symm)
        have z0 := hz.cell 0
        have z1 := hz.cell 1
        have z2 := hz.cell 2
        have z3 := hz.cell 3
        have z4 := hz.cell 4
        have z5 := hz.cell 5
        have zf := hz.frozen
        have zl := hz.lt
        unfold set6 at z0 z1 z2 z3 z4 z5 zf zl
        dsimp only at z0 z1 z2 z3 z4 z5 zf zl
        go_simp
        have hS := set6_below (x := ⟨yk, ya, yb, yc, yo, ym⟩) hHeld HL2.out
        refine hK.out _ _ (hS) (fun hH2 => ?_)
        clear hK K hHeld
        have hHeld := hH2
        clear hH2
        (try simp only [Act.put, List.setIfInBounds_toArray, List.set_cons_zero, List.set_cons_succ])
        clear hS hz z0 z1 z2 z3 z4 z5 zf zl
        refine wpAnyH_done (by kernel_rfl) ?_ _
        have hT := Tb2.make HW.out HH.out HO1.out HO2.out (by first | exact HNE.out | exact fun e => HNE.out e.symm) HL1.out HL2.out (x := ⟨xk, xa, xb, xc, xo, xm⟩) (y := ⟨yk, ya, yb, yc, yo, ym⟩)
        go_wp2
        go_meet
        exact ⟨O1, O2, rfl, rfl, Lib.hid hT⟩
      refine' AllReadyH.cons ?_ (fun K hK => ?_) ?_
      rotate_left
      focus (simp only [List.getElem?_toArray, List.getElem?_cons_succ, List.getElem?_cons_zero]; rfl)
      · go_simp
        have hb : Below u1a.heap.size u1a (u1a.alloc (.cells #[.int .i64 0, .int .i64 0, .int .i64 0, .int .i64 0, .int .i64 0, .int .i64 0] 26)) := bla (Below.refl _ _) _
    
        have HO1 := Lib.hid (Bk.new u1a 26 #[.int .i64 0, .int .i64 0, .int .i64 0, .int .i64 0, .int .i64 0, .int .i64 0])
        have HL1 := Lib.hid (show W0.heap.size ≤ u1a.heap.size from hHeld.size)
        have hS := blt hHeld hb
        clear hb
        refine hK.out _ _ (hS) (fun hH2 => ?_)
        clear hK K hHeld
        have hHeld := hH2
        clear hH2
        (try simp only [Act.put, List.setIfInBounds_toArray, List.set_cons_zero, List.set_cons_succ])
        clear hS
        generalize u1a.alloc (.cells #[.int .i64 0, .int .i64 0, .int .i64 0, .int .i64 0, .int .i64 0, .int .i64 0] 26) = u11a at *
        generalize u1a.heap.size = O1 at *
        refine wpAnyH_ready (rs := [17, 19]) (by kernel_rfl) (by simp) ?_
        refine' AllReadyH.cons ?_ (fun K hK => ?_) ?_
        rotate_left
        focus (simp only [List.getElem?_toArray, List.getElem?_cons_succ, List.getElem?_cons_zero]; rfl)
        · go_simp
          go_at_call 6
          refine (HY.out u11a).mono ?_
          rintro e u12a ⟨rfl, hb⟩
          replace HO1 := Lib.hid (HO1.out.below hb)
          have hS := blt hHeld hb
          clear hb
          refine hK.out _ _ (hS) (fun hH2 => ?_)
          clear hK K hHeld
          have hHeld := hH2
          clear hH2
          (try simp only [Act.put, List.setIfInBounds_toArray, List.set_cons_zero, List.set_cons_succ])
          clear hS
          refine wpAnyH_ready (rs := [19]) (by kernel_rfl) (by simp) ?_
          refine' AllReadyH.cons ?_ (fun K hK => ?_) AllReadyH.nil
          rotate_left
          focus (simp only [List.getElem?_toArray, List.getElem?_cons_succ, List.getElem?_cons_zero]; rfl)
          go_simp
          have hb : Below u12a.heap.size u12a (u12a.alloc (.cells #[.int .i64 0, .int .i64 0, .int .i64 0, .int .i64 0, .int .i64 0, .int .i64 0] 26)) := bla (Below.refl _ _) _
          have HNE := Lib.hid (show O1 ≠ u12a.heap.size from Nat.ne_of_lt HO1.out.lt)
          replace HO1 := Lib.hid (HO1.out.below hb)
          have HO2 := Lib.hid (Bk.new u12a 26 #[.int .i64 0, .int .i64 0, .int .i64 0, .int .i64 0, .int .i64 0, .int .i64 0])
          have HL2 := Lib.hid (show W0.heap.size ≤ u12a.heap.size from hHeld.size)
          have hS := blt hHeld hb
          clear hb
          refine hK.out _ _ (hS) (fun hH2 => ?_)
          clear hK K hHeld
          have hHeld := hH2
          clear hH2
          (try simp only [Act.put, List.setIfInBounds_toArray, List.set_cons_zero, List.set_cons_succ])
          clear hS
          generalize u12a.alloc (.cells #[.int .i64 0, .int .i64 0, .int .i64 0, .int .i64 0, .int .i64 0, .int .i64 0] 26) = u13a at *
          generalize u12a.heap.size = O2 at *
          refine wpAnyH_ready (rs := [20]) (by kernel_rfl) (by simp) ?_
          refine' AllReadyH.cons ?_ (fun K hK => ?_) AllReadyH.nil
          rotate_left
          focus (simp only [List.getElem?_toArray, List.getElem?_cons_succ, List.getElem?_cons_zero]; rfl)
          have HH := Lib.hid hHeld
          have hz := HO1.out
          have z0 := hz.cell 0
          have z1 := hz.cell 1
          have z2 := hz.cell 2
          have z3 := hz.cell 3
          have z4 := hz.cell 4
          have z5 := hz.cell 5
          have zf := hz.frozen
          have zl := hz.lt
          simp at z0 z1 z2 z3 z4 z5
          go_simp
          have hS := set6_below (x := ⟨xk, xa, xb, xc, xo, xm⟩) hHeld HL1.out
          refine hK.out _ _ (hS) (fun hH2 => ?_)
          clear hK K hHeld
          have hHeld := hH2
          clear hH2
          (try simp only [Act.put, List.setIfInBounds_toArray, List.set_cons_zero, List.set_cons_succ])
          clear hS hz z0 z1 z2 z3 z4 z5 zf zl
          refine wpAnyH_ready (rs := [21]) (by kernel_rfl) (by simp) ?_
          refine' AllReadyH.cons ?_ (fun K hK => ?_) AllReadyH.nil
          rotate_left
          focus (simp only [List.getElem?_toArray, List.getElem?_cons_succ, List.getElem?_cons_zero]; rfl)
          have hz := set6_far (g := O1) (x := ⟨xk, xa, xb, xc, xo, xm⟩) HO2.out (by first | exact HNE.out | exact fun e => HNE.out e.symm)
          have z0 := hz.cell 0
          have z1 := hz.cell 1
          have z2 := hz.cell 2
          have z3 := hz.cell 3
          have z4 := hz.cell 4
          have z5 := hz.cell 5
          have zf := hz.frozen
          have zl := hz.lt
          unfold set6 at z0 z1 z2 z3 z4 z5 zf zl
          dsimp only at z0 z1 z2 z3 z4 z5 zf zl
          go_simp
          have hS := set6_below (x := ⟨yk, ya, yb, yc, yo, ym⟩) hHeld HL2.out
          refine hK.out _ _ (hS) (fun hH2 => ?_)
          clear hK K hHeld
          have hHeld := hH2
          clear hH2
          (try simp only [Act.put, List.setIfInBounds_toArray, List.set_cons_zero, List.set_cons_succ])
          clear hS hz z0 z1 z2 z3 z4 z5 zf zl
          refine wpAnyH_done (by kernel_rfl) ?_ _
          have hT := Tb2.make HW.out HH.out HO1.out HO2.out (by first | exact HNE.out | exact fun e => HNE.out e.symm) HL1.out HL2.out (x := ⟨xk, xa, xb, xc, xo, xm⟩) (y := ⟨yk, ya, yb, yc, yo, ym⟩)
          go_wp2
          go_meet
          exact ⟨O1, O2, rfl, rfl, Lib.hid hT⟩
        refine' AllReadyH.cons ?_ (fun K hK => ?_) AllReadyH.nil
        rotate_left
        focus (simp only [List.getElem?_toArray, List.getElem?_cons_succ, List.getElem?_cons_zero]; rfl)
        go_simp
        have hb : Below u11a.heap.size u11a (u11a.alloc (.cells #[.int .i64 0, .int .i64 0, .int .i64 0, .int .i64 0, .int .i64 0, .int .i64 0] 26)) := bla (Below.refl _ _) _
        have HNE := Lib.hid (show O1 ≠ u11a.heap.size from Nat.ne_of_lt HO1.out.lt)
        replace HO1 := Lib.hid (HO1.out.below hb)
        have HO2 := Lib.hid (Bk.new u11a 26 #[.int .i64 0, .int .i64 0, .int .i64 0, .int .i64 0, .int .i64 0, .int .i64 0])
        have HL2 := Lib.hid (show W0.heap.size ≤ u11a.heap.size from hHeld.size)
        have hS := blt hHeld hb
        clear hb
        refine hK.out _ _ (hS) (fun hH2 => ?_)
        clear hK K hHeld
        have hHeld := hH2
        clear hH2
        (try simp only [Act.put, List.setIfInBounds_toArray, List.set_cons_zero, List.set_cons_succ])
        clear hS
        generalize u11a.alloc (.cells #[.int .i64 0, .int .i64 0, .int .i64 0, .int .i64 0, .int .i64 0, .int .i64 0] 26) = u16a at *
        generalize u11a.heap.size = O2 at *
        refine wpAnyH_ready (rs := [17]) (by kernel_rfl) (by simp) ?_
        refine' AllReadyH.cons ?_ (fun K hK => ?_) AllReadyH.nil
        rotate_left
        focus (simp only [List.getElem?_toArray, List.getElem?_cons_succ, List.getElem?_cons_zero]; rfl)
        go_simp
        go_at_call 6
        refine (HY.out u16a).mono ?_
        rintro e u17a ⟨rfl, hb⟩
        replace HO1 := Lib.hid (HO1.out.below hb)
        replace HO2 := Lib.hid (HO2.out.below hb)
        have hS := blt hHeld hb
        clear hb
        refine hK.out _ _ (hS) (fun hH2 => ?_)
        clear hK K hHeld
        have hHeld := hH2
        clear hH2
        (try simp only [Act.put, List.setIfInBounds_toArray, List.set_cons_zero, List.set_cons_succ])
        clear hS
        refine wpAnyH_ready (rs := [20]) (by kernel_rfl) (by simp) ?_
        refine' AllReadyH.cons ?_ (fun K hK => ?_) AllReadyH.nil
        rotate_left
        focus (simp only [List.getElem?_toArray, List.getElem?_cons_succ, List.getElem?_cons_zero]; rfl)
        have HH := Lib.hid hHeld
        have hz := HO1.out
        have z0 := hz.cell 0
        have z1 := hz.cell 1
        have z2 := hz.cell 2
        have z3 := hz.cell 3
        have z4 := hz.cell 4
        have z5 := hz.cell 5
        have zf := hz.frozen
        have zl := hz.lt
        simp at z0 z1 z2 z3 z4 z5
        go_simp
        have hS := set6_below (x := ⟨xk, xa, xb, xc, xo, xm⟩) hHeld HL1.out
        refine hK.out _ _ (hS) (fun hH2 => ?_)
        clear hK K hHeld
        have hHeld := hH2
        clear hH2
        (try simp only [Act.put, List.setIfInBounds_toArray, List.set_cons_zero, List.set_cons_succ])
        clear hS hz z0 z1 z2 z3 z4 z5 zf zl
        refine wpAnyH_ready (rs := [21]) (by kernel_rfl) (by simp) ?_
        refine' AllReadyH.cons ?_ (fun K hK => ?_) AllReadyH.nil
        rotate_left
        focus (simp only [List.getElem?_toArray, List.getElem?_cons_succ, List.getElem?_cons_zero]; rfl)
        have hz := set6_far (g := O1) (x := ⟨xk, xa, xb, xc, xo, xm⟩) HO2.out (by first | exact HNE.out | exact fun e => HNE.out e.symm)
        have z0 := hz.cell 0
        have z1 := hz.cell 1
        have z2 := hz.cell 2
        have z3 := hz.cell 3
        have z4 := hz.cell 4
        have z5 := hz.cell 5
        have zf := hz.frozen
        have zl := hz.lt
        unfold set6 at z0 z1 z2 z3 z4 z5 zf zl
        dsimp only at z0 z1 z2 z3 z4 z5 zf zl
        go_simp
        have hS := set6_below (x := ⟨yk, ya, yb, yc, yo, ym⟩) hHeld HL2.out
        refine hK.out _ _ (hS) (fun hH2 => ?_)
        clear hK K hHeld
        have hHeld := hH2
        clear hH2
        (try simp only [Act.put, List.setIfInBounds_toArray, List.set_cons_zero, List.set_cons_succ])
        clear hS hz z0 z1 z2 z3 z4 z5 zf zl
        refine wpAnyH_done (by kernel_rfl) ?_ _
        have hT := Tb2.make HW.out HH.out HO1.out HO2.out (by first | exact HNE.out | exact fun e => HNE.out e.symm) HL1.out HL2.out (x := ⟨xk, xa, xb, xc, xo, xm⟩) (y := ⟨yk, ya, yb, yc, yo, ym⟩)
        go_wp2
        go_meet
        exact ⟨O1, O2, rfl, rfl, Lib.hid hT⟩
      refine' AllReadyH.cons ?_ (fun K hK => ?_) AllReadyH.nil
      rotate_left
      focus (simp only [List.getElem?_toArray, List.getElem?_cons_succ, List.getElem?_cons_zero]; rfl)
      go_simp
      have hb : Below u1a.heap.size u1a (u1a.alloc (.cells #[.int .i64 0, .int .i64 0, .int .i64 0, .int .i64 0, .int .i64 0, .int .i64 0] 26)) := bla (Below.refl _ _) _
    
      have HO2 := Lib.hid (Bk.new u1a 26 #[.int .i64 0, .int .i64 0, .int .i64 0, .int .i64 0, .int .i64 0, .int .i64 0])
      have HL2 := Lib.hid (show W0.heap.size ≤ u1a.heap.size from hHeld.size)
      have hS := blt hHeld hb
      clear hb
      refine hK.out _ _ (hS) (fun hH2 => ?_)
      clear hK K hHeld
      have hHeld := hH2
      clear hH2
      (try simp only [Act.put, List.setIfInBounds_toArray, List.set_cons_zero, List.set_cons_succ])
      clear hS
      generalize u1a.alloc (.cells #[.int .i64 0, .int .i64 0, .int .i64 0, .int .i64 0, .int .i64 0, .int .i64 0] 26) = u20a at *
      generalize u1a.heap.size = O2 at *
      refine wpAnyH_ready (rs := [17, 18]) (by kernel_rfl) (by simp) ?_
      refine' AllReadyH.cons ?_ (fun K hK => ?_) ?_
      rotate_left
      focus (simp only [List.getElem?_toArray, List.getElem?_cons_succ, List.getElem?_cons_zero]; rfl)
      · go_simp
        go_at_call 6
        refine (HY.out u20a).mono ?_
        rintro e u21a ⟨rfl, hb⟩
        replace HO2 := Lib.hid (HO2.out.below hb)
        have hS := blt hHeld hb
        clear hb
        refine hK.out _ _ (hS) (fun hH2 => ?_)
        clear hK K hHeld
        have hHeld := hH2
        clear hH2
        (try simp only [Act.put, List.setIfInBounds_toArray, List.set_cons_zero, List.set_cons_succ])
        clear hS
        refine wpAnyH_ready (rs := [18]) (by kernel_rfl) (by simp) ?_
        refine' AllReadyH.cons ?_ (fun K hK => ?_) AllReadyH.nil
        rotate_left
        focus (simp only [List.getElem?_toArray, List.getElem?_cons_succ, List.getElem?_cons_zero]; rfl)
        go_simp
        have hb : Below u21a.heap.size u21a (u21a.alloc (.cells #[.int .i64 0, .int .i64 0, .int .i64 0, .int .i64 0, .int .i64 0, .int .i64 0] 26)) := bla (Below.refl _ _) _
        have HNE := Lib.hid (show O2 ≠ u21a.heap.size from Nat.ne_of_lt HO2.out.lt)
        replace HO2 := Lib.hid (HO2.out.below hb)
        have HO1 := Lib.hid (Bk.new u21a 26 #[.int .i64 0, .int .i64 0, .int .i64 0, .int .i64 0, .int .i64 0, .int .i64 0])
        have HL1 := Lib.hid (show W0.heap.size ≤ u21a.heap.size from hHeld.size)
        have hS := blt hHeld hb
        clear hb
        refine hK.out _ _ (hS) (fun hH2 => ?_)
        clear hK K hHeld
        have hHeld := hH2
        clear hH2
        (try simp only [Act.put, List.setIfInBounds_toArray, List.set_cons_zero, List.set_cons_succ])
        clear hS
        generalize u21a.alloc (.cells #[.int .i64 0, .int .i64 0, .int .i64 0, .int .i64 0, .int .i64 0, .int .i64 0] 26) = u22a at *
        generalize u21a.heap.size = O1 at *
        refine wpAnyH_ready (rs := [20]) (by kernel_rfl) (by simp) ?_
        refine' AllReadyH.cons ?_ (fun K hK => ?_) AllReadyH.nil
        rotate_left
        focus (simp only [List.getElem?_toArray, List.getElem?_cons_succ, List.getElem?_cons_zero]; rfl)
        have HH := Lib.hid hHeld
        have hz := HO1.out
        have z0 := hz.cell 0
        have z1 := hz.cell 1
        have z2 := hz.cell 2
        have z3 := hz.cell 3
        have z4 := hz.cell 4
        have z5 := hz.cell 5
        have zf := hz.frozen
        have zl := hz.lt
        simp at z0 z1 z2 z3 z4 z5
        go_simp
        have hS := set6_below (x := ⟨xk, xa, xb, xc, xo, xm⟩) hHeld HL1.out
        refine hK.out _ _ (hS) (fun hH2 => ?_)
        clear hK K hHeld
        have hHeld := hH2
        clear hH2
        (try simp only [Act.put, List.setIfInBounds_toArray, List.set_cons_zero, List.set_cons_succ])
        clear hS hz z0 z1 z2 z3 z4 z5 zf zl
        refine wpAnyH_ready (rs := [21]) (by kernel_rfl) (by simp) ?_
        refine' AllReadyH.cons ?_ (fun K hK => ?_) AllReadyH.nil
        rotate_left
        focus (simp only [List.getElem?_toArray, List.getElem?_cons_succ, List.getElem?_cons_zero]; rfl)
        have hz := set6_far (g := O1) (x := ⟨xk, xa, xb, xc, xo, xm⟩) HO2.out (by first | exact HNE.out | exact fun e => HNE.out e.symm)
        have z0 := hz.cell 0
        have z1 := hz.cell 1
        have z2 := hz.cell 2
        have z3 := hz.cell 3
        have z4 := hz.cell 4
        have z5 := hz.cell 5
        have zf := hz.frozen
        have zl := hz.lt
        unfold set6 at z0 z1 z2 z3 z4 z5 zf zl
        dsimp only at z0 z1 z2 z3 z4 z5 zf zl
        go_simp
        have hS := set6_below (x := ⟨yk, ya, yb, yc, yo, ym⟩) hHeld HL2.out
        refine hK.out _ _ (hS) (fun hH2 => ?_)
        clear hK K hHeld
        have hHeld := hH2
        clear hH2
        (try simp only [Act.put, List.setIfInBounds_toArray, List.set_cons_zero, List.set_cons_succ])
        clear hS hz z0 z1 z2 z3 z4 z5 zf zl
        refine wpAnyH_done (by kernel_rfl) ?_ _
        have hT := Tb2.make HW.out HH.out HO1.out HO2.out (by first | exact HNE.out | exact fun e => HNE.out e.symm) HL1.out HL2.out (x := ⟨xk, xa, xb, xc, xo, xm⟩) (y := ⟨yk, ya, yb, yc, yo, ym⟩)
        go_wp2
        go_meet
        exact ⟨O1, O2, rfl, rfl, Lib.hid hT⟩
      refine' AllReadyH.cons ?_ (fun K hK => ?_) AllReadyH.nil
      rotate_left
      focus (simp only [List.getElem?_toArray, List.getElem?_cons_succ, List.getElem?_cons_zero]; rfl)
      go_simp
      have hb : Below u20a.heap.size u20a (u20a.alloc (.cells #[.int .i64 0, .int .i64 0, .int .i64 0, .int .i64 0, .int .i64 0, .int .i64 0] 26)) := bla (Below.refl _ _) _
      have HNE := Lib.hid (show O2 ≠ u20a.heap.size from Nat.ne_of_lt HO2.out.lt)
      replace HO2 := Lib.hid (HO2.out.below hb)
      have HO1 := Lib.hid (Bk.new u20a 26 #[.int .i64 0, .int .i64 0, .int .i64 0, .int .i64 0, .int .i64 0, .int .i64 0])
      have HL1 := Lib.hid (show W0.heap.size ≤ u20a.heap.size from hHeld.size)
      have hS := blt hHeld hb
      clear hb
      refine hK.out _ _ (hS) (fun hH2 => ?_)
      clear hK K hHeld
      have hHeld := hH2
      clear hH2
      (try simp only [Act.put, List.setIfInBounds_toArray, List.set_cons_zero, List.set_cons_succ])
      clear hS
      generalize u20a.alloc (.cells #[.int .i64 0, .int .i64 0, .int .i64 0, .int .i64 0, .int .i64 0, .int .i64 0] 26) = u25a at *
      generalize u20a.heap.size = O1 at *
      refine wpAnyH_ready (rs := [17]) (by kernel_rfl) (by simp) ?_
      refine' AllReadyH.cons ?_ (fun K hK => ?_) AllReadyH.nil
      rotate_left
      focus (simp only [List.getElem?_toArray, List.getElem?_cons_succ, List.getElem?_cons_zero]; rfl)
      go_simp
      go_at_call 6
      refine (HY.out u25a).mono ?_
      rintro e u26a ⟨rfl, hb⟩
      replace HO2 := Lib.hid (HO2.out.below hb)
      replace HO1 := Lib.hid (HO1.out.below hb)
      have hS := blt hHeld hb
      clear hb
      refine hK.out _ _ (hS) (fun hH2 => ?_)
      clear hK K hHeld
      have hHeld := hH2
      clear hH2
      (try simp only [Act.put, List.setIfInBounds_toArray, List.set_cons_zero, List.set_cons_succ])
      clear hS
      refine wpAnyH_ready (rs := [20]) (by kernel_rfl) (by simp) ?_
      refine' AllReadyH.cons ?_ (fun K hK => ?_) AllReadyH.nil
      rotate_left
      focus (simp only [List.getElem?_toArray, List.getElem?_cons_succ, List.getElem?_cons_zero]; rfl)
      have HH := Lib.hid hHeld
      have hz := HO1.out
      have z0 := hz.cell 0
      have z1 := hz.cell 1
      have z2 := hz.cell 2
      have z3 := hz.cell 3
      have z4 := hz.cell 4
      have z5 := hz.cell 5
      have zf := hz.frozen
      have zl := hz.lt
      simp at z0 z1 z2 z3 z4 z5
      go_simp
      have hS := set6_below (x := ⟨xk, xa, xb, xc, xo, xm⟩) hHeld HL1.out
      refine hK.out _ _ (hS) (fun hH2 => ?_)
      clear hK K hHeld
      have hHeld := hH2
      clear hH2
      (try simp only [Act.put, List.setIfInBounds_toArray, List.set_cons_zero, List.set_cons_succ])
      clear hS hz z0 z1 z2 z3 z4 z5 zf zl
      refine wpAnyH_ready (rs := [21]) (by kernel_rfl) (by simp) ?_
      refine' AllReadyH.cons ?_ (fun K hK => ?_) AllReadyH.nil
      rotate_left
      focus (simp only [List.getElem?_toArray, List.getElem?_cons_succ, List.getElem?_cons_zero]; rfl)
      have hz := set6_far (g := O1) (x := ⟨xk, xa, xb, xc, xo, xm⟩) HO2.out (by first | exact HNE.out | exact fun e => HNE.out e.symm)
      have z0 := hz.cell 0
      have z1 := hz.cell 1
      have z2 := hz.cell 2
      have z3 := hz.cell 3
      have z4 := hz.cell 4
      have z5 := hz.cell 5
      have zf := hz.frozen
      have zl := hz.lt
      unfold set6 at z0 z1 z2 z3 z4 z5 zf zl
      dsimp only at z0 z1 z2 z3 z4 z5 zf zl
      go_simp
      have hS := set6_below (x := ⟨yk, ya, yb, yc, yo, ym⟩) hHeld HL2.out
      refine hK.out _ _ (hS) (fun hH2 => ?_)
      clear hK K hHeld
      have hHeld := hH2
      clear hH2
      (try simp only [Act.put, List.setIfInBounds_toArray, List.set_cons_zero, List.set_cons_succ])
      clear hS hz z0 z1 z2 z3 z4 z5 zf zl
      refine wpAnyH_done (by kernel_rfl) ?_ _
      have hT := Tb2.make HW.out HH.out HO1.out HO2.out (by first | exact HNE.out | exact fun e => HNE.out e.symm) HL1.out HL2.out (x := ⟨xk, xa, xb, xc, xo, xm⟩) (y := ⟨yk, ya, yb, yc, yo, ym⟩)
      go_wp2
      go_meet
      exact ⟨O1, O2, rfl, rfl, Lib.hid hT⟩
    refine' AllReadyH.cons ?_ (fun K hK => ?_) ?_
    rotate_left
    focus (simp only [List.getElem?_toArray, List.getElem?_cons_succ, List.getElem?_cons_zero]; rfl)
    · go_simp
      have hb : Below u0a.heap.size u0a (u0a.alloc (.cells #[.int .i64 0, .int .i64 0, .int .i64 0, .int .i64 0, .int .i64 0, .int .i64 0] 26)) := bla (Below.refl _ _) _
    
      have HO1 := Lib.hid (Bk.new u0a 26 #[.int .i64 0, .int .i64 0, .int .i64 0, .int .i64 0, .int .i64 0, .int .i64 0])
      have HL1 := Lib.hid (show W0.heap.size ≤ u0a.heap.size from hHeld.size)
      have hS := blt hHeld hb
      clear hb
      refine hK.out _ _ (hS) (fun hH2 => ?_)
      clear hK K hHeld
      have hHeld := hH2
      clear hH2
      (try simp only [Act.put, List.setIfInBounds_toArray, List.set_cons_zero, List.set_cons_succ])
      clear hS
      generalize u0a.alloc (.cells #[.int .i64 0, .int .i64 0, .int .i64 0, .int .i64 0, .int .i64 0, .int .i64 0] 26) = u29a at *
      generalize u0a.heap.size = O1 at *
      refine wpAnyH_ready (rs := [6, 19]) (by kernel_rfl) (by simp) ?_
      refine' AllReadyH.cons ?_ (fun K hK => ?_) ?_
      rotate_left
      focus (simp only [List.getElem?_toArray, List.getElem?_cons_succ, List.getElem?_cons_zero]; rfl)
      · go_simp
        go_at_call 6
        refine (HX.out u29a).mono ?_
        rintro e u30a ⟨rfl, hb⟩
        replace HO1 := Lib.hid (HO1.out.below hb)
        have hS := blt hHeld hb
        clear hb
        refine hK.out _ _ (hS) (fun hH2 => ?_)
        clear hK K hHeld
        have hHeld := hH2
        clear hH2
        (try simp only [Act.put, List.setIfInBounds_toArray, List.set_cons_zero, List.set_cons_succ])
        clear hS
        refine wpAnyH_ready (rs := [17, 19]) (by kernel_rfl) (by simp) ?_
        refine' AllReadyH.cons ?_ (fun K hK => ?_) ?_
        rotate_left
        focus (simp only [List.getElem?_toArray, List.getElem?_cons_succ, List.getElem?_cons_zero]; rfl)
        · go_simp
          go_at_call 6
          refine (HY.out u30a).mono ?_
          rintro e u31a ⟨rfl, hb⟩
          replace HO1 := Lib.hid (HO1.out.below hb)
          have hS := blt hHeld hb
          clear hb
          refine hK.out _ _ (hS) (fun hH2 => ?_)
          clear hK K hHeld
          have hHeld := hH2
          clear hH2
          (try simp only [Act.put, List.setIfInBounds_toArray, List.set_cons_zero, List.set_cons_succ])
          clear hS
          refine wpAnyH_ready (rs := [19]) (by kernel_rfl) (by simp) ?_
          refine' AllReadyH.cons ?_ (fun K hK => ?_) AllReadyH.nil
          rotate_left
          focus (simp only [List.getElem?_toArray, List.getElem?_cons_succ, List.getElem?_cons_zero]; rfl)
          go_simp
          have hb : Below u31a.heap.size u31a (u31a.alloc (.cells #[.int .i64 0, .int .i64 0, .int .i64 0, .int .i64 0, .int .i64 0, .int .i64 0] 26)) := bla (Below.refl _ _) _
          have HNE := Lib.hid (show O1 ≠ u31a.heap.size from Nat.ne_of_lt HO1.out.lt)
          replace HO1 := Lib.hid (HO1.out.below hb)
          have HO2 := Lib.hid (Bk.new u31a 26 #[.int .i64 0, .int .i64 0, .int .i64 0, .int .i64 0, .int .i64 0, .int .i64 0])
          have HL2 := Lib.hid (show W0.heap.size ≤ u31a.heap.size from hHeld.size)
          have hS := blt hHeld hb
          clear hb
          refine hK.out _ _ (hS) (fun hH2 => ?_)
          clear hK K hHeld
          have hHeld := hH2
          clear hH2
          (try simp only [Act.put, List.setIfInBounds_toArray, List.set_cons_zero, List.set_cons_succ])
          clear hS
          generalize u31a.alloc (.cells #[.int .i64 0, .int .i64 0, .int .i64 0, .int .i64 0, .int .i64 0, .int .i64 0] 26) = u32a at *
          generalize u31a.heap.size = O2 at *
          refine wpAnyH_ready (rs := [20]) (by kernel_rfl) (by simp) ?_
          refine' AllReadyH.cons ?_ (fun K hK => ?_) AllReadyH.nil
          rotate_left
          focus (simp only [List.getElem?_toArray, List.getElem?_cons_succ, List.getElem?_cons_zero]; rfl)
          have HH := Lib.hid hHeld
          have hz := HO1.out
          have z0 := hz.cell 0
          have z1 := hz.cell 1
          have z2 := hz.cell 2
          have z3 := hz.cell 3
          have z4 := hz.cell 4
          have z5 := hz.cell 5
          have zf := hz.frozen
          have zl := hz.lt
          simp at z0 z1 z2 z3 z4 z5
          go_simp
          have hS := set6_below (x := ⟨xk, xa, xb, xc, xo, xm⟩) hHeld HL1.out
          refine hK.out _ _ (hS) (fun hH2 => ?_)
          clear hK K hHeld
          have hHeld := hH2
          clear hH2
          (try simp only [Act.put, List.setIfInBounds_toArray, List.set_cons_zero, List.set_cons_succ])
          clear hS hz z0 z1 z2 z3 z4 z5 zf zl
          refine wpAnyH_ready (rs := [21]) (by kernel_rfl) (by simp) ?_
          refine' AllReadyH.cons ?_ (fun K hK => ?_) AllReadyH.nil
          rotate_left
          focus (simp only [List.getElem?_toArray, List.getElem?_cons_succ, List.getElem?_cons_zero]; rfl)
          have hz := set6_far (g := O1) (x := ⟨xk, xa, xb, xc, xo, xm⟩) HO2.out (by first | exact HNE.out | exact fun e => HNE.out e.symm)
          have z0 := hz.cell 0
          have z1 := hz.cell 1
          have z2 := hz.cell 2
          have z3 := hz.cell 3
          have z4 := hz.cell 4
          have z5 := hz.cell 5
          have zf := hz.frozen
          have zl := hz.lt
          unfold set6 at z0 z1 z2 z3 z4 z5 zf zl
          dsimp only at z0 z1 z2 z3 z4 z5 zf zl
          go_simp
          have hS := set6_below (x := ⟨yk, ya, yb, yc, yo, ym⟩) hHeld HL2.out
          refine hK.out _ _ (hS) (fun hH2 => ?_)
          clear hK K hHeld
          have hHeld := hH2
          clear hH2
          (try simp only [Act.put, List.setIfInBounds_toArray, List.set_cons_zero, List.set_cons_succ])
          clear hS hz z0 z1 z2 z3 z4 z5 zf zl
          refine wpAnyH_done (by kernel_rfl) ?_ _
          have hT := Tb2.make HW.out HH.out HO1.out HO2.out (by first | exact HNE.out | exact fun e => HNE.out e.symm) HL1.out HL2.out (x := ⟨xk, xa, xb, xc, xo, xm⟩) (y := ⟨yk, ya, yb, yc, yo, ym⟩)
          go_wp2
          go_meet
          exact ⟨O1, O2, rfl, rfl, Lib.hid hT⟩
        refine' AllReadyH.cons ?_ (fun K hK => ?_) AllReadyH.nil
        rotate_left
        focus (simp only [List.getElem?_toArray, List.getElem?_cons_succ, List.getElem?_cons_zero]; rfl)
        go_simp
        have hb : Below u30a.heap.size u30a (u30a.alloc (.cells #[.int .i64 0, .int .i64 0, .int .i64 0, .int .i64 0, .int .i64 0, .int .i64 0] 26)) := bla (Below.refl _ _) _
        have HNE := Lib.hid (show O1 ≠ u30a.heap.size from Nat.ne_of_lt HO1.out.lt)
        replace HO1 := Lib.hid (HO1.out.below hb)
        have HO2 := Lib.hid (Bk.new u30a 26 #[.int .i64 0, .int .i64 0, .int .i64 0, .int .i64 0, .int .i64 0, .int .i64 0])
        have HL2 := Lib.hid (show W0.heap.size ≤ u30a.heap.size from hHeld.size)
        have hS := blt hHeld hb
        clear hb
        refine hK.out _ _ (hS) (fun hH2 => ?_)
        clear hK K hHeld
        have hHeld := hH2
        clear hH2
        (try simp only [Act.put, List.setIfInBounds_toArray, List.set_cons_zero, List.set_cons_succ])
        clear hS
        generalize u30a.alloc (.cells #[.int .i64 0, .int .i64 0, .int .i64 0, .int .i64 0, .int .i64 0, .int .i64 0] 26) = u35a at *
        generalize u30a.heap.size = O2 at *
        refine wpAnyH_ready (rs := [17]) (by kernel_rfl) (by simp) ?_
        refine' AllReadyH.cons ?_ (fun K hK => ?_) AllReadyH.nil
        rotate_left
        focus (simp only [List.getElem?_toArray, List.getElem?_cons_succ, List.getElem?_cons_zero]; rfl)
        go_simp
        go_at_call 6
        refine (HY.out u35a).mono ?_
        rintro e u36a ⟨rfl, hb⟩
        replace HO1 := Lib.hid (HO1.out.below hb)
        replace HO2 := Lib.hid (HO2.out.below hb)
        have hS := blt hHeld hb
        clear hb
        refine hK.out _ _ (hS) (fun hH2 => ?_)
        clear hK K hHeld
        have hHeld := hH2
        clear hH2
        (try simp only [Act.put, List.setIfInBounds_toArray, List.set_cons_zero, List.set_cons_succ])
        clear hS
        refine wpAnyH_ready (rs := [20]) (by kernel_rfl) (by simp) ?_
        refine' AllReadyH.cons ?_ (fun K hK => ?_) AllReadyH.nil
        rotate_left
        focus (simp only [List.getElem?_toArray, List.getElem?_cons_succ, List.getElem?_cons_zero]; rfl)
        have HH := Lib.hid hHeld
        have hz := HO1.out
        have z0 := hz.cell 0
        have z1 := hz.cell 1
        have z2 := hz.cell 2
        have z3 := hz.cell 3
        have z4 := hz.cell 4
        have z5 := hz.cell 5
        have zf := hz.frozen
        have zl := hz.lt
        simp at z0 z1 z2 z3 z4 z5
        go_simp
        have hS := set6_below (x := ⟨xk, xa, xb, xc, xo, xm⟩) hHeld HL1.out
        refine hK.out _ _ (hS) (fun hH2 => ?_)
        clear hK K hHeld
        have hHeld := hH2
        clear hH2
        (try simp only [Act.put, List.setIfInBounds_toArray, List.set_cons_zero, List.set_cons_succ])
        clear hS hz z0 z1 z2 z3 z4 z5 zf zl
        refine wpAnyH_ready (rs := [21]) (by kernel_rfl) (by simp) ?_
        refine' AllReadyH.cons ?_ (fun K hK => ?_) AllReadyH.nil
        rotate_left
        focus (simp only [List.getElem?_toArray, List.getElem?_cons_succ, List.getElem?_cons_zero]; rfl)
        have hz := set6_far (g := O1) (x := ⟨xk, xa, xb, xc, xo, xm⟩) HO2.out (by first | exact HNE.out | exact fun e => HNE.out e.symm)
        have z0 := hz.cell 0
        have z1 := hz.cell 1
        have z2 := hz.cell 2
        have z3 := hz.cell 3
        have z4 := hz.cell 4
        have z5 := hz.cell 5
        have zf := hz.frozen
        have zl := hz.lt
        unfold set6 at z0 z1 z2 z3 z4 z5 zf zl
        dsimp only at z0 z1 z2 z3 z4 z5 zf zl
        go_simp
        have hS := set6_below (x := ⟨yk, ya, yb, yc, yo, ym⟩) hHeld HL2.out
        refine hK.out _ _ (hS) (fun hH2 => ?_)
        clear hK K hHeld
        have hHeld := hH2
        clear hH2
        (try simp only [Act.put, List.setIfInBounds_toArray, List.set_cons_zero, List.set_cons_succ])
        clear hS hz z0 z1 z2 z3 z4 z5 zf zl
        refine wpAnyH_done (by kernel_rfl) ?_ _
        have hT := Tb2.make HW.out HH.out HO1.out HO2.out (by first | exact HNE.out | exact fun e => HNE.out e.symm) HL1.out HL2.out (x := ⟨xk, xa, xb, xc, xo, xm⟩) (y := ⟨yk, ya, yb, yc, yo, ym⟩)
        go_wp2
        go_meet
        exact ⟨O1, O2, rfl, rfl, Lib.hid hT⟩
      refine' AllReadyH.cons ?_ (fun K hK => ?_) AllReadyH.nil
      rotate_left
      focus (simp only [List.getElem?_toArray, List.getElem?_cons_succ, List.getElem?_cons_zero]; rfl)
      go_simp
      have hb : Below u29a.heap.size u29a (u29a.alloc (.cells #[.int .i64 0, .int .i64 0, .int .i64 0, .int .i64 0, .int .i64 0, .int .i64 0] 26)) := bla (Below.refl _ _) _
      have HNE := Lib.hid (show O1 ≠ u29a.heap.size from Nat.ne_of_lt HO1.out.lt)
      replace HO1 := Lib.hid (HO1.out.below hb)
      have HO2 := Lib.hid (Bk.new u29a 26 #[.int .i64 0, .int .i64 0, .int .i64 0, .int .i64 0, .int .i64 0, .int .i64 0])
      have HL2 := Lib.hid (show W0.heap.size ≤ u29a.heap.size from hHeld.size)
      have hS := blt hHeld hb
      clear hb
      refine hK.out _ _ (hS) (fun hH2 => ?_)
      clear hK K hHeld
      have hHeld := hH2
      clear hH2
      (try simp only [Act.put, List.setIfInBounds_toArray, List.set_cons_zero, List.set_cons_succ])
      clear hS
      generalize u29a.alloc (.cells #[.int .i64 0, .int .i64 0, .int .i64 0, .int .i64 0, .int .i64 0, .int .i64 0] 26) = u39a at *
      generalize u29a.heap.size = O2 at *
      refine wpAnyH_ready (rs := [6]) (by kernel_rfl) (by simp) ?_
      refine' AllReadyH.cons ?_ (fun K hK => ?_) AllReadyH.nil
      rotate_left
      focus (simp only [List.getElem?_toArray, List.getElem?_cons_succ, List.getElem?_cons_zero]; rfl)
      go_simp
      go_at_call 6
      refine (HX.out u39a).mono ?_
      rintro e u40a ⟨rfl, hb⟩
      replace HO1 := Lib.hid (HO1.out.below hb)
      replace HO2 := Lib.hid (HO2.out.below hb)
      have hS := blt hHeld hb
      clear hb
      refine hK.out _ _ (hS) (fun hH2 => ?_)
      clear hK K hHeld
      have hHeld := hH2
      clear hH2
      (try simp only [Act.put, List.setIfInBounds_toArray, List.set_cons_zero, List.set_cons_succ])
      clear hS
      refine wpAnyH_ready (rs := [17]) (by kernel_rfl) (by simp) ?_
      refine' AllReadyH.cons ?_ (fun K hK => ?_) AllReadyH.nil
      rotate_left
      focus (simp only [List.getElem?_toArray, List.getElem?_cons_succ, List.getElem?_cons_zero]; rfl)
      go_simp
      go_at_call 6
      refine (HY.out u40a).mono ?_
      rintro e u41a ⟨rfl, hb⟩
      replace HO1 := Lib.hid (HO1.out.below hb)
      replace HO2 := Lib.hid (HO2.out.below hb)
      have hS := blt hHeld hb
      clear hb
      refine hK.out _ _ (hS) (fun hH2 => ?_)
      clear hK K hHeld
      have hHeld := hH2
      clear hH2
      (try simp only [Act.put, List.setIfInBounds_toArray, List.set_cons_zero, List.set_cons_succ])
      clear hS
      refine wpAnyH_ready (rs := [20]) (by kernel_rfl) (by simp) ?_
      refine' AllReadyH.cons ?_ (fun K hK => ?_) AllReadyH.nil
      rotate_left
      focus (simp only [List.getElem?_toArray, List.getElem?_cons_succ, List.getElem?_cons_zero]; rfl)
      have HH := Lib.hid hHeld
      have hz := HO1.out
      have z0 := hz.cell 0
      have z1 := hz.cell 1
      have z2 := hz.cell 2
      have z3 := hz.cell 3
      have z4 := hz.cell 4
      have z5 := hz.cell 5
      have zf := hz.frozen
      have zl := hz.lt
      simp at z0 z1 z2 z3 z4 z5
      go_simp
      have hS := set6_below (x := ⟨xk, xa, xb, xc, xo, xm⟩) hHeld HL1.out
      refine hK.out _ _ (hS) (fun hH2 => ?_)
      clear hK K hHeld
      have hHeld := hH2
      clear hH2
      (try simp only [Act.put, List.setIfInBounds_toArray, List.set_cons_zero, List.set_cons_succ])
      clear hS hz z0 z1 z2 z3 z4 z5 zf zl
      refine wpAnyH_ready (rs := [21]) (by kernel_rfl) (by simp) ?_
      refine' AllReadyH.cons ?_ (fun K hK => ?_) AllReadyH.nil
      rotate_left
      focus (simp only [List.getElem?_toArray, List.getElem?_cons_succ, List.getElem?_cons_zero]; rfl)
      have hz := set6_far (g := O1) (x := ⟨xk, xa, xb, xc, xo, xm⟩) HO2.out (by first | exact HNE.out | exact fun e => HNE.out e.symm)
      have z0 := hz.cell 0
      have z1 := hz.cell 1
      have z2 := hz.cell 2
      have z3 := hz.cell 3
      have z4 := hz.cell 4
      have z5 := hz.cell 5
      have zf := hz.frozen
      have zl := hz.lt
      unfold set6 at z0 z1 z2 z3 z4 z5 zf zl
      dsimp only at z0 z1 z2 z3 z4 z5 zf zl
      go_simp
      have hS := set6_below (x := ⟨yk, ya, yb, yc, yo, ym⟩) hHeld HL2.out
      refine hK.out _ _ (hS) (fun hH2 => ?_)
      clear hK K hHeld
      have hHeld := hH2
      clear hH2
      (try simp only [Act.put, List.setIfInBounds_toArray, List.set_cons_zero, List.set_cons_succ])
      clear hS hz z0 z1 z2 z3 z4 z5 zf zl
      refine wpAnyH_done (by kernel_rfl) ?_ _
      have hT := Tb2.make HW.out HH.out HO1.out HO2.out (by first | exact HNE.out | exact fun e => HNE.out e.symm) HL1.out HL2.out (x := ⟨xk, xa, xb, xc, xo, xm⟩) (y := ⟨yk, ya, yb, yc, yo, ym⟩)
      go_wp2
      go_meet
      exact ⟨O1, O2, rfl, rfl, Lib.hid hT⟩
    refine' AllReadyH.cons ?_ (fun K hK => ?_) AllReadyH.nil
    rotate_left
    focus (simp only [List.getElem?_toArray, List.getElem?_cons_succ, List.getElem?_cons_zero]; rfl)
    go_simp
    have hb : Below u0a.heap.size u0a (u0a.alloc (.cells #[.int .i64 0, .int .i64 0, .int .i64 0, .int .i64 0, .int .i64 0, .int .i64 0] 26)) := bla (Below.refl _ _) _
    
    have HO2 := Lib.hid (Bk.new u0a 26 #[.int .i64 0, .int .i64 0, .int .i64 0, .int .i64 0, .int .i64 0, .int .i64 0])
    have HL2 := Lib.hid (show W0.heap.size ≤ u0a.heap.size from hHeld.size)
    have hS := blt hHeld hb
    clear hb
    refine hK.out _ _ (hS) (fun hH2 => ?_)
    clear hK K hHeld
    have hHeld := hH2
    clear hH2
    (try simp only [Act.put, List.setIfInBounds_toArray, List.set_cons_zero, List.set_cons_succ])
    clear hS
    generalize u0a.alloc (.cells #[.int .i64 0, .int .i64 0, .int .i64 0, .int .i64 0, .int .i64 0, .int .i64 0] 26) = u44a at *
    generalize u0a.heap.size = O2 at *
    refine wpAnyH_ready (rs := [6, 18]) (by kernel_rfl) (by simp) ?_
    refine' AllReadyH.cons ?_ (fun K hK => ?_) ?_
    rotate_left
    focus (simp only [List.getElem?_toArray, List.getElem?_cons_succ, List.getElem?_cons_zero]; rfl)
    · go_simp
      go_at_call 6
      refine (HX.out u44a).mono ?_
      rintro e u45a ⟨rfl, hb⟩
      replace HO2 := Lib.hid (HO2.out.below hb)
      have hS := blt hHeld hb
      clear hb
      refine hK.out _ _ (hS) (fun hH2 => ?_)
      clear hK K hHeld
      have hHeld := hH2
      clear hH2
      (try simp only [Act.put, List.setIfInBounds_toArray, List.set_cons_zero, List.set_cons_succ])
      clear hS
      refine wpAnyH_ready (rs := [17, 18]) (by kernel_rfl) (by simp) ?_
      refine' AllReadyH.cons ?_ (fun K hK => ?_) ?_
      rotate_left
      focus (simp only [List.getElem?_toArray, List.getElem?_cons_succ, List.getElem?_cons_zero]; rfl)
      · go_simp
        go_at_call 6
        refine (HY.out u45a).mono ?_
        rintro e u46a ⟨rfl, hb⟩
        replace HO2 := Lib.hid (HO2.out.below hb)
        have hS := blt hHeld hb
        clear hb
        refine hK.out _ _ (hS) (fun hH2 => ?_)
        clear hK K hHeld
        have hHeld := hH2
        clear hH2
        (try simp only [Act.put, List.setIfInBounds_toArray, List.set_cons_zero, List.set_cons_succ])
        clear hS
        refine wpAnyH_ready (rs := [18]) (by kernel_rfl) (by simp) ?_
        refine' AllReadyH.cons ?_ (fun K hK => ?_) AllReadyH.nil
        rotate_left
        focus (simp only [List.getElem?_toArray, List.getElem?_cons_succ, List.getElem?_cons_zero]; rfl)
        go_simp
        have hb : Below u46a.heap.size u46a (u46a.alloc (.cells #[.int .i64 0, .int .i64 0, .int .i64 0, .int .i64 0, .int .i64 0, .int .i64 0] 26)) := bla (Below.refl _ _) _
        have HNE := Lib.hid (show O2 ≠ u46a.heap.size from Nat.ne_of_lt HO2.out.lt)
        replace HO2 := Lib.hid (HO2.out.below hb)
        have HO1 := Lib.hid (Bk.new u46a 26 #[.int .i64 0, .int .i64 0, .int .i64 0, .int .i64 0, .int .i64 0, .int .i64 0])
        have HL1 := Lib.hid (show W0.heap.size ≤ u46a.heap.size from hHeld.size)
        have hS := blt hHeld hb
        clear hb
        refine hK.out _ _ (hS) (fun hH2 => ?_)
        clear hK K hHeld
        have hHeld := hH2
        clear hH2
        (try simp only [Act.put, List.setIfInBounds_toArray, List.set_cons_zero, List.set_cons_succ])
        clear hS
        generalize u46a.alloc (.cells #[.int .i64 0, .int .i64 0, .int .i64 0, .int .i64 0, .int .i64 0, .int .i64 0] 26) = u47a at *
        generalize u46a.heap.size = O1 at *
        refine wpAnyH_ready (rs := [20]) (by kernel_rfl) (by simp) ?_
        refine' AllReadyH.cons ?_ (fun K hK => ?_) AllReadyH.nil
        rotate_left
        focus (simp only [List.getElem?_toArray, List.getElem?_cons_succ, List.getElem?_cons_zero]; rfl)
        have HH := Lib.hid hHeld
        have hz := HO1.out
        have z0 := hz.cell 0
        have z1 := hz.cell 1
        have z2 := hz.cell 2
        have z3 := hz.cell 3
        have z4 := hz.cell 4
        have z5 := hz.cell 5
        have zf := hz.frozen
        have zl := hz.lt
        simp at z0 z1 z2 z3 z4 z5
        go_simp
        have hS := set6_below (x := ⟨xk, xa, xb, xc, xo, xm⟩) hHeld HL1.out
        refine hK.out _ _ (hS) (fun hH2 => ?_)
        clear hK K hHeld
        have hHeld := hH2
        clear hH2
        (try simp only [Act.put, List.setIfInBounds_toArray, List.set_cons_zero, List.set_cons_succ])
        clear hS hz z0 z1 z2 z3 z4 z5 zf zl
        refine wpAnyH_ready (rs := [21]) (by kernel_rfl) (by simp) ?_
        refine' AllReadyH.cons ?_ (fun K hK => ?_) AllReadyH.nil
        rotate_left
        focus (simp only [List.getElem?_toArray, List.getElem?_cons_succ, List.getElem?_cons_zero]; rfl)
        have hz := set6_far (g := O1) (x := ⟨xk, xa, xb, xc, xo, xm⟩) HO2.out (by first | exact HNE.out | exact fun e => HNE.out e.symm)
        have z0 := hz.cell 0
        have z1 := hz.cell 1
        have z2 := hz.cell 2
        have z3 := hz.cell 3
        have z4 := hz.cell 4
        have z5 := hz.cell 5
        have zf := hz.frozen
        have zl := hz.lt
        unfold set6 at z0 z1 z2 z3 z4 z5 zf zl
        dsimp only at z0 z1 z2 z3 z4 z5 zf zl
        go_simp
        have hS := set6_below (x := ⟨yk, ya, yb, yc, yo, ym⟩) hHeld HL2.out
        refine hK.out _ _ (hS) (fun hH2 => ?_)
        clear hK K hHeld
        have hHeld := hH2
        clear hH2
        (try simp only [Act.put, List.setIfInBounds_toArray, List.set_cons_zero, List.set_cons_succ])
        clear hS hz z0 z1 z2 z3 z4 z5 zf zl
        refine wpAnyH_done (by kernel_rfl) ?_ _
        have hT := Tb2.make HW.out HH.out HO1.out HO2.out (by first | exact HNE.out | exact fun e => HNE.out e.symm) HL1.out HL2.out (x := ⟨xk, xa, xb, xc, xo, xm⟩) (y := ⟨yk, ya, yb, yc, yo, ym⟩)
        go_wp2
        go_meet
        exact ⟨O1, O2, rfl, rfl, Lib.hid hT⟩
      refine' AllReadyH.cons ?_ (fun K hK => ?_) AllReadyH.nil
      rotate_left
      focus (simp only [List.getElem?_toArray, List.getElem?_cons_succ, List.getElem?_cons_zero]; rfl)
      go_simp
      have hb : Below u45a.heap.size u45a (u45a.alloc (.cells #[.int .i64 0, .int .i64 0, .int .i64 0, .int .i64 0, .int .i64 0, .int .i64 0] 26)) := bla (Below.refl _ _) _
      have HNE := Lib.hid (show O2 ≠ u45a.heap.size from Nat.ne_of_lt HO2.out.lt)
      replace HO2 := Lib.hid (HO2.out.below hb)
      have HO1 := Lib.hid (Bk.new u45a 26 #[.int .i64 0, .int .i64 0, .int .i64 0, .int .i64 0, .int .i64 0, .int .i64 0])
      have HL1 := Lib.hid (show W0.heap.size ≤ u45a.heap.size from hHeld.size)
      have hS := blt hHeld hb
      clear hb
      refine hK.out _ _ (hS) (fun hH2 => ?_)
      clear hK K hHeld
      have hHeld := hH2
      clear hH2
      (try simp only [Act.put, List.setIfInBounds_toArray, List.set_cons_zero, List.set_cons_succ])
      clear hS
      generalize u45a.alloc (.cells #[.int .i64 0, .int .i64 0, .int .i64 0, .int .i64 0, .int .i64 0, .int .i64 0] 26) = u50a at *
      generalize u45a.heap.size = O1 at *
      refine wpAnyH_ready (rs := [17]) (by kernel_rfl) (by simp) ?_
      refine' AllReadyH.cons ?_ (fun K hK => ?_) AllReadyH.nil
      rotate_left
      focus (simp only [List.getElem?_toArray, List.getElem?_cons_succ, List.getElem?_cons_zero]; rfl)
      go_simp
      go_at_call 6
      refine (HY.out u50a).mono ?_
      rintro e u51a ⟨rfl, hb⟩
      replace HO2 := Lib.hid (HO2.out.below hb)
      replace HO1 := Lib.hid (HO1.out.below hb)
      have hS := blt hHeld hb
      clear hb
      refine hK.out _ _ (hS) (fun hH2 => ?_)
      clear hK K hHeld
      have hHeld := hH2
      clear hH2
      (try simp only [Act.put, List.setIfInBounds_toArray, List.set_cons_zero, List.set_cons_succ])
      clear hS
      refine wpAnyH_ready (rs := [20]) (by kernel_rfl) (by simp) ?_
      refine' AllReadyH.cons ?_ (fun K hK => ?_) AllReadyH.nil
      rotate_left
      focus (simp only [List.getElem?_toArray, List.getElem?_cons_succ, List.getElem?_cons_zero]; rfl)
      have HH := Lib.hid hHeld
      have hz := HO1.out
      have z0 := hz.cell 0
      have z1 := hz.cell 1
      have z2 := hz.cell 2
      have z3 := hz.cell 3
      have z4 := hz.cell 4
      have z5 := hz.cell 5
      have zf := hz.frozen
      have zl := hz.lt
      simp at z0 z1 z2 z3 z4 z5
      go_simp
      have hS := set6_below (x := ⟨xk, xa, xb, xc, xo, xm⟩) hHeld HL1.out
      refine hK.out _ _ (hS) (fun hH2 => ?_)
      clear hK K hHeld
      have hHeld := hH2
      clear hH2
      (try simp only [Act.put, List.setIfInBounds_toArray, List.set_cons_zero, List.set_cons_succ])
      clear hS hz z0 z1 z2 z3 z4 z5 zf zl
      refine wpAnyH_ready (rs := [21]) (by kernel_rfl) (by simp) ?_
      refine' AllReadyH.cons ?_ (fun K hK => ?_) AllReadyH.nil
      rotate_left
      focus (simp only [List.getElem?_toArray, List.getElem?_cons_succ, List.getElem?_cons_zero]; rfl)
      have hz := set6_far (g := O1) (x := ⟨xk, xa, xb, xc, xo, xm⟩) HO2.out (by first | exact HNE.out | exact fun e => HNE.out e.symm)
      have z0 := hz.cell 0
      have z1 := hz.cell 1
      have z2 := hz.cell 2
      have z3 := hz.cell 3
      have z4 := hz.cell 4
      have z5 := hz.cell 5
      have zf := hz.frozen
      have zl := hz.lt
      unfold set6 at z0 z1 z2 z3 z4 z5 zf zl
      dsimp only at z0 z1 z2 z3 z4 z5 zf zl
      go_simp
      have hS := set6_below (x := ⟨yk, ya, yb, yc, yo, ym⟩) hHeld HL2.out
      refine hK.out _ _ (hS) (fun hH2 => ?_)
      clear hK K hHeld
      have hHeld := hH2
      clear hH2
      (try simp only [Act.put, List.setIfInBounds_toArray, List.set_cons_zero, List.set_cons_succ])
      clear hS hz z0 z1 z2 z3 z4 z5 zf zl
      refine wpAnyH_done (by kernel_rfl) ?_ _
      have hT := Tb2.make HW.out HH.out HO1.out HO2.out (by first | exact HNE.out | exact fun e => HNE.out e.symm) HL1.out HL2.out (x := ⟨xk, xa, xb, xc, xo, xm⟩) (y := ⟨yk, ya, yb, yc, yo, ym⟩)
      go_wp2
      go_meet
      exact ⟨O1, O2, rfl, rfl, Lib.hid hT⟩
    refine' AllReadyH.cons ?_ (fun K hK => ?_) AllReadyH.nil
    rotate_left
    focus (simp only [List.getElem?_toArray, List.getElem?_cons_succ, List.getElem?_cons_zero]; rfl)
    go_simp
    have hb : Below u44a.heap.size u44a (u44a.alloc (.cells #[.int .i64 0, .int .i64 0, .int .i64 0, .int .i64 0, .int .i64 0, .int .i64 0] 26)) := bla (Below.refl _ _) _
    have HNE := Lib.hid (show O2 ≠ u44a.heap.size from Nat.ne_of_lt HO2.out.lt)
    replace HO2 := Lib.hid (HO2.out.below hb)
    have HO1 := Lib.hid (Bk.new u44a 26 #[.int .i64 0, .int .i64 0, .int .i64 0, .int .i64 0, .int .i64 0, .int .i64 0])
    have HL1 := Lib.hid (show W0.heap.size ≤ u44a.heap.size from hHeld.size)
    have hS := blt hHeld hb
    clear hb
    refine hK.out _ _ (hS) (fun hH2 => ?_)
    clear hK K hHeld
    have hHeld := hH2
    clear hH2
    (try simp only [Act.put, List.setIfInBounds_toArray, List.set_cons_zero, List.set_cons_succ])
    clear hS
    generalize u44a.alloc (.cells #[.int .i64 0, .int .i64 0, .int .i64 0, .int .i64 0, .int .i64 0, .int .i64 0] 26) = u54a at *
    generalize u44a.heap.size = O1 at *
    refine wpAnyH_ready (rs := [6]) (by kernel_rfl) (by simp) ?_
    refine' AllReadyH.cons ?_ (fun K hK => ?_) AllReadyH.nil
    rotate_left
    focus (simp only [List.getElem?_toArray, List.getElem?_cons_succ, List.getElem?_cons_zero]; rfl)
    go_simp
    go_at_call 6
    refine (HX.out u54a).mono ?_
    rintro e u55a ⟨rfl, hb⟩
    replace HO2 := Lib.hid (HO2.out.below hb)
    replace HO1 := Lib.hid (HO1.out.below hb)
    have hS := blt hHeld hb
    clear hb
    refine hK.out _ _ (hS) (fun hH2 => ?_)
    clear hK K hHeld
    have hHeld := hH2
    clear hH2
    (try simp only [Act.put, List.setIfInBounds_toArray, List.set_cons_zero, List.set_cons_succ])
    clear hS
    refine wpAnyH_ready (rs := [17]) (by kernel_rfl) (by simp) ?_
    refine' AllReadyH.cons ?_ (fun K hK => ?_) AllReadyH.nil
    rotate_left
    focus (simp only [List.getElem?_toArray, List.getElem?_cons_succ, List.getElem?_cons_zero]; rfl)
    go_simp
    go_at_call 6
    refine (HY.out u55a).mono ?_
    rintro e u56a ⟨rfl, hb⟩
    replace HO2 := Lib.hid (HO2.out.below hb)
    replace HO1 := Lib.hid (HO1.out.below hb)
    have hS := blt hHeld hb
    clear hb
    refine hK.out _ _ (hS) (fun hH2 => ?_)
    clear hK K hHeld
    have hHeld := hH2
    clear hH2
    (try simp only [Act.put, List.setIfInBounds_toArray, List.set_cons_zero, List.set_cons_succ])
    clear hS
    refine wpAnyH_ready (rs := [20]) (by kernel_rfl) (by simp) ?_
    refine' AllReadyH.cons ?_ (fun K hK => ?_) AllReadyH.nil
    rotate_left
    focus (simp only [List.getElem?_toArray, List.getElem?_cons_succ, List.getElem?_cons_zero]; rfl)
    have HH := Lib.hid hHeld
    have hz := HO1.out
    have z0 := hz.cell 0
    have z1 := hz.cell 1
    have z2 := hz.cell 2
    have z3 := hz.cell 3
    have z4 := hz.cell 4
    have z5 := hz.cell 5
    have zf := hz.frozen
    have zl := hz.lt
    simp at z0 z1 z2 z3 z4 z5
    go_simp
    have hS := set6_below (x := ⟨xk, xa, xb, xc, xo, xm⟩) hHeld HL1.out
    refine hK.out _ _ (hS) (fun hH2 => ?_)
    clear hK K hHeld
    have hHeld := hH2
    clear hH2
    (try simp only [Act.put, List.setIfInBounds_toArray, List.set_cons_zero, List.set_cons_succ])
    clear hS hz z0 z1 z2 z3 z4 z5 zf zl
    refine wpAnyH_ready (rs := [21]) (by kernel_rfl) (by simp) ?_
    refine' AllReadyH.cons ?_ (fun K hK => ?_) AllReadyH.nil
    rotate_left
    focus (simp only [List.getElem?_toArray, List.getElem?_cons_succ, List.getElem?_cons_zero]; rfl)
    have hz := set6_far (g := O1) (x := ⟨xk, xa, xb, xc, xo, xm⟩) HO2.out (by first | exact HNE.out | exact fun e => HNE.out e.symm)
    have z0 := hz.cell 0
    have z1 := hz.cell 1
    have z2 := hz.cell 2
    have z3 := hz.cell 3
    have z4 := hz.cell 4
    have z5 := hz.cell 5
    have zf := hz.frozen
    have zl := hz.lt
    unfold set6 at z0 z1 z2 z3 z4 z5 zf zl
    dsimp only at z0 z1 z2 z3 z4 z5 zf zl
    go_simp
    have hS := set6_below (x := ⟨yk, ya, yb, yc, yo, ym⟩) hHeld HL2.out
    refine hK.out _ _ (hS) (fun hH2 => ?_)
    clear hK K hHeld
    have hHeld := hH2
    clear hH2
    (try simp only [Act.put, List.setIfInBounds_toArray, List.set_cons_zero, List.set_cons_succ])
    clear hS hz z0 z1 z2 z3 z4 z5 zf zl
    refine wpAnyH_done (by kernel_rfl) ?_ _
    have hT := Tb2.make HW.out HH.out HO1.out HO2.out (by first | exact HNE.out | exact fun e => HNE.out e.symm) HL1.out HL2.out (x := ⟨xk, xa, xb, xc, xo, xm⟩) (y := ⟨yk, ya, yb, yc, yo, ym⟩)
    go_wp2
    go_meet
    exact ⟨O1, O2, rfl, rfl, Lib.hid hT⟩
  case rest =>
    obtain ⟨O1, O2, rfl, rfl, HT⟩ := hcut
    clear HX HY HW q0 q1 q2 q3 hlt0
    have d0 := HT.out.b1.cell 0
    have d1 := HT.out.b1.cell 1
    have d2 := HT.out.b1.cell 2
    have d3 := HT.out.b1.cell 3
    have d4 := HT.out.b1.cell 4
    have d5 := HT.out.b1.cell 5
    have e0 := HT.out.b2.cell 0
    have e1 := HT.out.b2.cell 1
    have e2 := HT.out.b2.cell 2
    have e3 := HT.out.b2.cell 3
    have e4 := HT.out.b2.cell 4
    have e5 := HT.out.b2.cell 5
    simp at d0 d1 d2 d3 d4 d5 e0 e1 e2 e3 e4 e5
    have HE1 := Lib.hid (ienc_any [(⟨xk, xa, xb, xc, xo, xm⟩ : In.I), ⟨yk, ya, yb, yc, yo, ym⟩] _ _ (lit_in2 wc ⟨xk, xa, xb, xc, xo, xm⟩ ⟨yk, ya, yb, yc, yo, ym⟩ _ rfl) (by unfold maxLen; simp))
    have HE2 := Lib.hid (fun (u : World) => ienc_any [(⟨xk, xa, xb, xc, xo, xm⟩ : In.I)] _ _ (show InsL _ _ [(⟨xk, xa, xb, xc, xo, xm⟩ : In.I)] from lit_in u xk xa xb xc xo xm _ rfl) (by unfold maxLen; simp))
    have HE3 := Lib.hid (fun (u : World) => ienc_any [(⟨yk, ya, yb, yc, yo, ym⟩ : In.I)] _ _ (show InsL _ _ [(⟨yk, ya, yb, yc, yo, ym⟩ : In.I)] from lit_in u yk ya yb yc yo ym _ rfl) (by unfold maxLen; simp))
    dsimp only at HE1
    go_wp2_with (first
      | (go_at_call 11; refine (HE3.out u2).mono ?_; rintro e u3 ⟨y3, rfl, hown, hb⟩; rw [HF.out.by_] at hown; rw [HF.out.ey]; have HW3 := Lib.hid (fun (u : World) (hu : Below u3.heap.size u3 u) => (by have := txt_any hown hu; rwa [HF.out.tR] at this)); have hT := HT2.out.below (blt (bla (Below.refl _ _) _) hb); have HT3 := Lib.hid hT; have HC3 := Lib.hid (blt (bla (Below.refl u2.heap.size u2) _) hb); clear hown hb hT)
      | (go_at_call 11; refine (HE2.out u1).mono ?_; rintro e u2 ⟨y2, rfl, hown, hb⟩; rw [HF.out.bx] at hown; rw [HF.out.ex]; have HW2 := Lib.hid (fun (u : World) (hu : Below u2.heap.size u2 u) => (by have := txt_any hown hu; rwa [HF.out.tQ] at this)); have hT := HT1.out.below (blt (bla (Below.refl _ _) _) hb); have HT2 := Lib.hid hT; have HC2 := Lib.hid (blt (bla (Below.refl u1.heap.size u1) _) hb); have d0 := hT.b1.cell 0; have d1 := hT.b1.cell 1; have d2 := hT.b1.cell 2; have d3 := hT.b1.cell 3; have d4 := hT.b1.cell 4; have d5 := hT.b1.cell 5; have e0 := hT.b2.cell 0; have e1 := hT.b2.cell 1; have e2 := hT.b2.cell 2; have e3 := hT.b2.cell 3; have e4 := hT.b2.cell 4; have e5 := hT.b2.cell 5; simp at d0 d1 d2 d3 d4 d5 e0 e1 e2 e3 e4 e5; clear hown hb hT)
      | (go_at_call 11; refine HE1.out.mono ?_; rintro e u1 ⟨y1, rfl, hown, hb⟩; rw [HF.out.b2] at hown; rw [HF.out.e2]; obtain ⟨g1, c1, hy, -, -, -⟩ := own_block hown (by rw [HF.out.len]; omega); subst hy; have HW1 := Lib.hid (fun (u : World) (hu : Below u1.heap.size u1 u) => (by have := txt_any hown hu; rwa [HF.out.tP] at this)); have HO1 := Lib.hid hown; rw [HF.out.len]; rw [HF.out.len] at HW1; have hT := HT.out.below (blt (bla (Below.refl _ _) _) hb); have HT1 := Lib.hid hT; have d0 := hT.b1.cell 0; have d1 := hT.b1.cell 1; have d2 := hT.b1.cell 2; have d3 := hT.b1.cell 3; have d4 := hT.b1.cell 4; have d5 := hT.b1.cell 5; have e0 := hT.b2.cell 0; have e1 := hT.b2.cell 1; have e2 := hT.b2.cell 2; have e3 := hT.b2.cell 3; have e4 := hT.b2.cell 4; have e5 := hT.b2.cell 5; simp at d0 d1 d2 d3 d4 d5 e0 e1 e2 e3 e4 e5; clear hown hb hT)
      | (go_at_call 12; refine (idec_any P _ u3 (show BytL u3 (.slice (some ⟨g1, 0, none⟩) 16 c1) P from by have h := RowIn.own (own_below HO1.out (blt HC2.out HC3.out)); unfold BytL; rw [HF.out.len] at h ⊢; exact h) (by have h := own_sn HO1.out; rw [HF.out.len] at h; exact h) HF.out.rng (by rw [HF.out.len]; unfold maxLen; omega)).mono ?_; rintro e u4 ⟨y4, rfl, hown, hb⟩; rw [HF.out.dl] at hown; rw [HF.out.dn]; obtain ⟨g, c, hy, -, hgl, hcs⟩ := own_block hown (by simp); subst hy; have HT4 := Lib.hid (HT3.out.below hb); have HB1 := Lib.hid hb; have HB2 := Lib.hid (blt HC3.out hb); have HB3 := Lib.hid (blt HC2.out (blt HC3.out hb)); clear hown hb))
    have HALL := Lib.hid (fun (u : World) (hu : Below u4.heap.size u4 u) => (show u.cell? ⟨O1, 0, none⟩ = some (.int .i64 xk) ∧ u.cell? ⟨O1, 1, none⟩ = some (.int .i64 xa) ∧ u.cell? ⟨O1, 2, none⟩ = some (.int .i64 xb) ∧ u.cell? ⟨O1, 3, none⟩ = some (.int .i64 xc) ∧ u.cell? ⟨O1, 4, none⟩ = some (.int .i64 xo) ∧ u.cell? ⟨O1, 5, none⟩ = some (.int .i64 xm) ∧ u.cell? ⟨O2, 0, none⟩ = some (.int .i64 yk) ∧ u.cell? ⟨O2, 1, none⟩ = some (.int .i64 ya) ∧ u.cell? ⟨O2, 2, none⟩ = some (.int .i64 yb) ∧ u.cell? ⟨O2, 3, none⟩ = some (.int .i64 yc) ∧ u.cell? ⟨O2, 4, none⟩ = some (.int .i64 yo) ∧ u.cell? ⟨O2, 5, none⟩ = some (.int .i64 ym) ∧ u.cell? ⟨g, 0, none⟩ = some (.int .i64 xk) ∧ u.cell? ⟨g, 1, none⟩ = some (.int .i64 xa) ∧ u.cell? ⟨g, 2, none⟩ = some (.int .i64 xb) ∧ u.cell? ⟨g, 3, none⟩ = some (.int .i64 xc) ∧ u.cell? ⟨g, 4, none⟩ = some (.int .i64 xo) ∧ u.cell? ⟨g, 5, none⟩ = some (.int .i64 xm) ∧ u.cell? ⟨g, 6, none⟩ = some (.int .i64 yk) ∧ u.cell? ⟨g, 7, none⟩ = some (.int .i64 ya) ∧ u.cell? ⟨g, 8, none⟩ = some (.int .i64 yb) ∧ u.cell? ⟨g, 9, none⟩ = some (.int .i64 yc) ∧ u.cell? ⟨g, 10, none⟩ = some (.int .i64 yo) ∧ u.cell? ⟨g, 11, none⟩ = some (.int .i64 ym) ∧ (convert 22 9 (.slice (some ⟨g1, 0, none⟩) 16 c1)).run Try.prog u = .ok (.string sP) u ∧ (convert 22 9 y2).run Try.prog u = .ok (.string sQ) u ∧ (convert 22 9 y3).run Try.prog u = .ok (.string sR) u from ⟨((HT4.out.b1.below hu).cell 0), ((HT4.out.b1.below hu).cell 1), ((HT4.out.b1.below hu).cell 2), ((HT4.out.b1.below hu).cell 3), ((HT4.out.b1.below hu).cell 4), ((HT4.out.b1.below hu).cell 5), ((HT4.out.b2.below hu).cell 0), ((HT4.out.b2.below hu).cell 1), ((HT4.out.b2.below hu).cell 2), ((HT4.out.b2.below hu).cell 3), ((HT4.out.b2.below hu).cell 4), ((HT4.out.b2.below hu).cell 5), ((hu.cell (p := ⟨g, 0, none⟩) hgl).trans (hcs 0 _ rfl)), ((hu.cell (p := ⟨g, 1, none⟩) hgl).trans (hcs 1 _ rfl)), ((hu.cell (p := ⟨g, 2, none⟩) hgl).trans (hcs 2 _ rfl)), ((hu.cell (p := ⟨g, 3, none⟩) hgl).trans (hcs 3 _ rfl)), ((hu.cell (p := ⟨g, 4, none⟩) hgl).trans (hcs 4 _ rfl)), ((hu.cell (p := ⟨g, 5, none⟩) hgl).trans (hcs 5 _ rfl)), ((hu.cell (p := ⟨g, 6, none⟩) hgl).trans (hcs 6 _ rfl)), ((hu.cell (p := ⟨g, 7, none⟩) hgl).trans (hcs 7 _ rfl)), ((hu.cell (p := ⟨g, 8, none⟩) hgl).trans (hcs 8 _ rfl)), ((hu.cell (p := ⟨g, 9, none⟩) hgl).trans (hcs 9 _ rfl)), ((hu.cell (p := ⟨g, 10, none⟩) hgl).trans (hcs 10 _ rfl)), ((hu.cell (p := ⟨g, 11, none⟩) hgl).trans (hcs 11 _ rfl)), HW1.out u (blt HB3.out hu), HW2.out u (blt HB2.out hu), HW3.out u (blt HB1.out hu)⟩))
    have HBel := Lib.hid HT4.out.bel
    clear HT HT1 HT2 HT3 HT4 HW1 HW2 HW3 HB1 HB2 HB3 HC2 HC3 HO1 hgl hcs d0 d1 d2 d3 d4 d5 e0 e1 e2 e3 e4 e5
    have hg := in_guard
    have hN1 := in_eql ⟨xk, xa, xb, xc, xo, xm⟩ ⟨xk, xa, xb, xc, xo, xm⟩
    rw [show decide ((⟨xk, xa, xb, xc, xo, xm⟩ : In.I) = ⟨xk, xa, xb, xc, xo, xm⟩) = true from by simp] at hN1
    have hN2 := in_eql ⟨yk, ya, yb, yc, yo, ym⟩ ⟨yk, ya, yb, yc, yo, ym⟩
    rw [show decide ((⟨yk, ya, yb, yc, yo, ym⟩ : In.I) = ⟨yk, ya, yb, yc, yo, ym⟩) = true from by simp] at hN2
    have hN3 := in_eql ⟨xk, xa, xb, xc, xo, xm⟩ ⟨yk, ya, yb, yc, yo, ym⟩
    rw [HF.out.eq] at hN3
    simp only at hN1 hN2 hN3
    have hst := HF.out.same
    have hC := HF.out.cat
    refine wp_region_held_drew (S := (fun u => Below u4.heap.size u4 u)) (by kernel_rfl) (below_drewN _ _ 1) (fun hHeld => ?_)
    refine' wpAnyH_take (i := 0) (v := _) ?_ ?_ ?_ ?_ ?_ ?_ ?_ ?_
    rotate_left 2
    focus (simp only [List.getElem?_toArray, List.getElem?_cons_succ, List.getElem?_cons_zero]; rfl)
    focus kernel_rfl
    focus kernel_rfl
    focus kernel_rfl
    focus exact (fun _ _ _ h => h)
    refine Or.inl ⟨?_, ?_⟩
    focus (go_simp; done)
    focus (intro w hSw; obtain ⟨a0, a1, a2, a3, a4, a5, b0, b1, b2, b3, b4, b5, l0, l1, l2, l3, l4, l5, l6, l7, l8, l9, l10, l11, t1, t2, t3⟩ := HALL.out _ hSw; (first | (go_simp; done) | (go_simp; with_reducible rfl)))
    focus assumption
    (try simp only [Act.put, List.setIfInBounds_toArray, List.set_cons_zero, List.set_cons_succ])
    refine' wpAnyH_take (i := 1) (v := _) ?_ ?_ ?_ ?_ ?_ ?_ ?_ ?_
    rotate_left 2
    focus (simp only [List.getElem?_toArray, List.getElem?_cons_succ, List.getElem?_cons_zero]; rfl)
    focus kernel_rfl
    focus kernel_rfl
    focus kernel_rfl
    focus exact (fun _ _ _ h => h)
    refine Or.inl ⟨?_, ?_⟩
    focus (go_simp; done)
    focus (intro w hSw; obtain ⟨a0, a1, a2, a3, a4, a5, b0, b1, b2, b3, b4, b5, l0, l1, l2, l3, l4, l5, l6, l7, l8, l9, l10, l11, t1, t2, t3⟩ := HALL.out _ hSw; (first | (go_simp; done) | (go_simp; with_reducible rfl)))
    focus assumption
    (try simp only [Act.put, List.setIfInBounds_toArray, List.set_cons_zero, List.set_cons_succ])
    refine' wpAnyH_take (i := 2) (v := _) ?_ ?_ ?_ ?_ ?_ ?_ ?_ ?_
    rotate_left 2
    focus (simp only [List.getElem?_toArray, List.getElem?_cons_succ, List.getElem?_cons_zero]; rfl)
    focus kernel_rfl
    focus kernel_rfl
    focus kernel_rfl
    focus exact (fun _ _ _ h => h)
    refine Or.inl ⟨?_, ?_⟩
    focus (go_simp; done)
    focus (intro w hSw; obtain ⟨a0, a1, a2, a3, a4, a5, b0, b1, b2, b3, b4, b5, l0, l1, l2, l3, l4, l5, l6, l7, l8, l9, l10, l11, t1, t2, t3⟩ := HALL.out _ hSw; (first | (go_simp; done) | (go_simp; with_reducible rfl)))
    focus assumption
    (try simp only [Act.put, List.setIfInBounds_toArray, List.set_cons_zero, List.set_cons_succ])
    refine' wpAnyH_take (i := 3) (v := _) ?_ ?_ ?_ ?_ ?_ ?_ ?_ ?_
    rotate_left 2
    focus (simp only [List.getElem?_toArray, List.getElem?_cons_succ, List.getElem?_cons_zero]; rfl)
    focus kernel_rfl
    focus kernel_rfl
    focus kernel_rfl
    focus exact (fun _ _ _ h => h)
    refine Or.inl ⟨?_, ?_⟩
    focus (go_simp; done)
    focus (intro w hSw; obtain ⟨a0, a1, a2, a3, a4, a5, b0, b1, b2, b3, b4, b5, l0, l1, l2, l3, l4, l5, l6, l7, l8, l9, l10, l11, t1, t2, t3⟩ := HALL.out _ hSw; (first | (go_simp; done) | (go_simp; with_reducible rfl)))
    focus assumption
    (try simp only [Act.put, List.setIfInBounds_toArray, List.set_cons_zero, List.set_cons_succ])
    refine' wpAnyH_take (i := 4) (v := _) ?_ ?_ ?_ ?_ ?_ ?_ ?_ ?_
    rotate_left 2
    focus (simp only [List.getElem?_toArray, List.getElem?_cons_succ, List.getElem?_cons_zero]; rfl)
    focus kernel_rfl
    focus kernel_rfl
    focus kernel_rfl
    focus exact (fun _ _ _ h => h)
    refine Or.inl ⟨?_, ?_⟩
    focus (go_simp; done)
    focus (intro w hSw; obtain ⟨a0, a1, a2, a3, a4, a5, b0, b1, b2, b3, b4, b5, l0, l1, l2, l3, l4, l5, l6, l7, l8, l9, l10, l11, t1, t2, t3⟩ := HALL.out _ hSw; (first | (go_simp; done) | (go_simp; with_reducible rfl)))
    focus assumption
    (try simp only [Act.put, List.setIfInBounds_toArray, List.set_cons_zero, List.set_cons_succ])
    refine' wpAnyH_take (i := 5) (v := _) ?_ ?_ ?_ ?_ ?_ ?_ ?_ ?_
    rotate_left 2
    focus (simp only [List.getElem?_toArray, List.getElem?_cons_succ, List.getElem?_cons_zero]; rfl)
    focus kernel_rfl
    focus kernel_rfl
    focus kernel_rfl
    focus exact (fun _ _ _ h => h)
    refine Or.inl ⟨?_, ?_⟩
    focus (go_simp; done)
    focus (intro w hSw; obtain ⟨a0, a1, a2, a3, a4, a5, b0, b1, b2, b3, b4, b5, l0, l1, l2, l3, l4, l5, l6, l7, l8, l9, l10, l11, t1, t2, t3⟩ := HALL.out _ hSw; (first | (go_simp; done) | (go_simp; with_reducible rfl)))
    focus assumption
    (try simp only [Act.put, List.setIfInBounds_toArray, List.set_cons_zero, List.set_cons_succ])
    refine' wpAnyH_take (i := 6) (v := _) ?_ ?_ ?_ ?_ ?_ ?_ ?_ ?_
    rotate_left 2
    focus (simp only [List.getElem?_toArray, List.getElem?_cons_succ, List.getElem?_cons_zero]; rfl)
    focus kernel_rfl
    focus kernel_rfl
    focus kernel_rfl
    focus exact (fun _ _ _ h => h)
    refine Or.inl ⟨?_, ?_⟩
    focus (go_simp; done)
    focus (intro w hSw; obtain ⟨a0, a1, a2, a3, a4, a5, b0, b1, b2, b3, b4, b5, l0, l1, l2, l3, l4, l5, l6, l7, l8, l9, l10, l11, t1, t2, t3⟩ := HALL.out _ hSw; (first | (go_simp; done) | (go_simp; with_reducible rfl)))
    focus assumption
    (try simp only [Act.put, List.setIfInBounds_toArray, List.set_cons_zero, List.set_cons_succ])
    refine' wpAnyH_take (i := 7) (v := _) ?_ ?_ ?_ ?_ ?_ ?_ ?_ ?_
    rotate_left 2
    focus (simp only [List.getElem?_toArray, List.getElem?_cons_succ, List.getElem?_cons_zero]; rfl)
    focus kernel_rfl
    focus kernel_rfl
    focus kernel_rfl
    focus exact (fun _ _ _ h => h)
    refine Or.inl ⟨?_, ?_⟩
    focus (go_simp; done)
    focus (intro w hSw; obtain ⟨a0, a1, a2, a3, a4, a5, b0, b1, b2, b3, b4, b5, l0, l1, l2, l3, l4, l5, l6, l7, l8, l9, l10, l11, t1, t2, t3⟩ := HALL.out _ hSw; (first | (go_simp; done) | (go_simp; with_reducible rfl)))
    focus assumption
    (try simp only [Act.put, List.setIfInBounds_toArray, List.set_cons_zero, List.set_cons_succ])
    refine' wpAnyH_take (i := 8) (v := _) ?_ ?_ ?_ ?_ ?_ ?_ ?_ ?_
    rotate_left 2
    focus (simp only [List.getElem?_toArray, List.getElem?_cons_succ, List.getElem?_cons_zero]; rfl)
    focus kernel_rfl
    focus kernel_rfl
    focus kernel_rfl
    focus exact (fun _ _ _ h => h)
    refine Or.inl ⟨?_, ?_⟩
    focus (go_simp; done)
    focus (intro w hSw; obtain ⟨a0, a1, a2, a3, a4, a5, b0, b1, b2, b3, b4, b5, l0, l1, l2, l3, l4, l5, l6, l7, l8, l9, l10, l11, t1, t2, t3⟩ := HALL.out _ hSw; (first | (go_simp; done) | (go_simp; with_reducible rfl)))
    focus assumption
    (try simp only [Act.put, List.setIfInBounds_toArray, List.set_cons_zero, List.set_cons_succ])
    refine' wpAnyH_take (i := 9) (v := _) ?_ ?_ ?_ ?_ ?_ ?_ ?_ ?_
    rotate_left 2
    focus (simp only [List.getElem?_toArray, List.getElem?_cons_succ, List.getElem?_cons_zero]; rfl)
    focus kernel_rfl
    focus kernel_rfl
    focus kernel_rfl
    focus exact (fun _ _ _ h => h)
    refine Or.inl ⟨?_, ?_⟩
    focus (go_simp; done)
    focus (intro w hSw; obtain ⟨a0, a1, a2, a3, a4, a5, b0, b1, b2, b3, b4, b5, l0, l1, l2, l3, l4, l5, l6, l7, l8, l9, l10, l11, t1, t2, t3⟩ := HALL.out _ hSw; (first | (go_simp; done) | (go_simp; with_reducible rfl)))
    focus assumption
    (try simp only [Act.put, List.setIfInBounds_toArray, List.set_cons_zero, List.set_cons_succ])
    refine' wpAnyH_take (i := 10) (v := _) ?_ ?_ ?_ ?_ ?_ ?_ ?_ ?_
    rotate_left 2
    focus (simp only [List.getElem?_toArray, List.getElem?_cons_succ, List.getElem?_cons_zero]; rfl)
    focus kernel_rfl
    focus kernel_rfl
    focus kernel_rfl
    focus exact (fun _ _ _ h => h)
    refine Or.inl ⟨?_, ?_⟩
    focus (go_simp; done)
    focus (intro w hSw; obtain ⟨a0, a1, a2, a3, a4, a5, b0, b1, b2, b3, b4, b5, l0, l1, l2, l3, l4, l5, l6, l7, l8, l9, l10, l11, t1, t2, t3⟩ := HALL.out _ hSw; (first | (go_simp; done) | (go_simp; with_reducible rfl)))
    focus assumption
    (try simp only [Act.put, List.setIfInBounds_toArray, List.set_cons_zero, List.set_cons_succ])
    refine' wpAnyH_take (i := 11) (v := _) ?_ ?_ ?_ ?_ ?_ ?_ ?_ ?_
    rotate_left 2
    focus (simp only [List.getElem?_toArray, List.getElem?_cons_succ, List.getElem?_cons_zero]; rfl)
    focus kernel_rfl
    focus kernel_rfl
    focus kernel_rfl
    focus exact (fun _ _ _ h => h)
    refine Or.inl ⟨?_, ?_⟩
    focus (go_simp; done)
    focus (intro w hSw; obtain ⟨a0, a1, a2, a3, a4, a5, b0, b1, b2, b3, b4, b5, l0, l1, l2, l3, l4, l5, l6, l7, l8, l9, l10, l11, t1, t2, t3⟩ := HALL.out _ hSw; (first | (go_simp; done) | (go_simp; with_reducible rfl)))
    focus assumption
    (try simp only [Act.put, List.setIfInBounds_toArray, List.set_cons_zero, List.set_cons_succ])
    refine' wpAnyH_take (i := 12) (v := _) ?_ ?_ ?_ ?_ ?_ ?_ ?_ ?_
    rotate_left 2
    focus (simp only [List.getElem?_toArray, List.getElem?_cons_succ, List.getElem?_cons_zero]; rfl)
    focus kernel_rfl
    focus kernel_rfl
    focus kernel_rfl
    focus exact (fun _ _ _ h => h)
    refine Or.inl ⟨?_, ?_⟩
    focus (go_simp; done)
    focus (intro w hSw; obtain ⟨a0, a1, a2, a3, a4, a5, b0, b1, b2, b3, b4, b5, l0, l1, l2, l3, l4, l5, l6, l7, l8, l9, l10, l11, t1, t2, t3⟩ := HALL.out _ hSw; (first | (go_simp; done) | (go_simp; with_reducible rfl)))
    focus assumption
    (try simp only [Act.put, List.setIfInBounds_toArray, List.set_cons_zero, List.set_cons_succ])
    refine' wpAnyH_take (i := 13) (v := _) ?_ ?_ ?_ ?_ ?_ ?_ ?_ ?_
    rotate_left 2
    focus (simp only [List.getElem?_toArray, List.getElem?_cons_succ, List.getElem?_cons_zero]; rfl)
    focus kernel_rfl
    focus kernel_rfl
    focus kernel_rfl
    focus exact (fun _ _ _ h => h)
    refine Or.inl ⟨?_, ?_⟩
    focus (go_simp; done)
    focus (intro w hSw; obtain ⟨a0, a1, a2, a3, a4, a5, b0, b1, b2, b3, b4, b5, l0, l1, l2, l3, l4, l5, l6, l7, l8, l9, l10, l11, t1, t2, t3⟩ := HALL.out _ hSw; (first | (go_simp; done) | (go_simp; with_reducible rfl)))
    focus assumption
    (try simp only [Act.put, List.setIfInBounds_toArray, List.set_cons_zero, List.set_cons_succ])
    refine' wpAnyH_take (i := 14) (v := _) ?_ ?_ ?_ ?_ ?_ ?_ ?_ ?_
    rotate_left 2
    focus (simp only [List.getElem?_toArray, List.getElem?_cons_succ, List.getElem?_cons_zero]; rfl)
    focus kernel_rfl
    focus kernel_rfl
    focus kernel_rfl
    focus exact (fun _ _ _ h => h)
    refine Or.inl ⟨?_, ?_⟩
    focus (go_simp; done)
    focus (intro w hSw; obtain ⟨a0, a1, a2, a3, a4, a5, b0, b1, b2, b3, b4, b5, l0, l1, l2, l3, l4, l5, l6, l7, l8, l9, l10, l11, t1, t2, t3⟩ := HALL.out _ hSw; (first | (go_simp; done) | (go_simp; with_reducible rfl)))
    focus assumption
    (try simp only [Act.put, List.setIfInBounds_toArray, List.set_cons_zero, List.set_cons_succ])
    refine' wpAnyH_take (i := 15) (v := _) ?_ ?_ ?_ ?_ ?_ ?_ ?_ ?_
    rotate_left 2
    focus (simp only [List.getElem?_toArray, List.getElem?_cons_succ, List.getElem?_cons_zero]; rfl)
    focus kernel_rfl
    focus kernel_rfl
    focus kernel_rfl
    focus exact (fun _ _ _ h => h)
    refine Or.inl ⟨?_, ?_⟩
    focus (go_simp; done)
    focus (intro w hSw; obtain ⟨a0, a1, a2, a3, a4, a5, b0, b1, b2, b3, b4, b5, l0, l1, l2, l3, l4, l5, l6, l7, l8, l9, l10, l11, t1, t2, t3⟩ := HALL.out _ hSw; (first | (go_simp; done) | (go_simp; with_reducible rfl)))
    focus assumption
    (try simp only [Act.put, List.setIfInBounds_toArray, List.set_cons_zero, List.set_cons_succ])
    refine' wpAnyH_take (i := 16) (v := _) ?_ ?_ ?_ ?_ ?_ ?_ ?_ ?_
    rotate_left 2
    focus (simp only [List.getElem?_toArray, List.getElem?_cons_succ, List.getElem?_cons_zero]; rfl)
    focus kernel_rfl
    focus kernel_rfl
    focus kernel_rfl
    focus exact (fun _ _ _ h => h)
    refine Or.inl ⟨?_, ?_⟩
    focus (go_simp; done)
    focus (intro w hSw; obtain ⟨a0, a1, a2, a3, a4, a5, b0, b1, b2, b3, b4, b5, l0, l1, l2, l3, l4, l5, l6, l7, l8, l9, l10, l11, t1, t2, t3⟩ := HALL.out _ hSw; (first | (go_simp; done) | (go_simp; with_reducible rfl)))
    focus assumption
    (try simp only [Act.put, List.setIfInBounds_toArray, List.set_cons_zero, List.set_cons_succ])
    refine' wpAnyH_take (i := 17) (v := _) ?_ ?_ ?_ ?_ ?_ ?_ ?_ ?_
    rotate_left 2
    focus (simp only [List.getElem?_toArray, List.getElem?_cons_succ, List.getElem?_cons_zero]; rfl)
    focus kernel_rfl
    focus kernel_rfl
    focus kernel_rfl
    focus exact (fun _ _ _ h => h)
    refine Or.inl ⟨?_, ?_⟩
    focus (go_simp; done)
    focus (intro w hSw; obtain ⟨a0, a1, a2, a3, a4, a5, b0, b1, b2, b3, b4, b5, l0, l1, l2, l3, l4, l5, l6, l7, l8, l9, l10, l11, t1, t2, t3⟩ := HALL.out _ hSw; (first | (go_simp; done) | (go_simp; with_reducible rfl)))
    focus assumption
    (try simp only [Act.put, List.setIfInBounds_toArray, List.set_cons_zero, List.set_cons_succ])
    refine' wpAnyH_take (i := 18) (v := _) ?_ ?_ ?_ ?_ ?_ ?_ ?_ ?_
    rotate_left 2
    focus (simp only [List.getElem?_toArray, List.getElem?_cons_succ, List.getElem?_cons_zero]; rfl)
    focus kernel_rfl
    focus kernel_rfl
    focus kernel_rfl
    focus exact (fun _ _ _ h => h)
    refine Or.inl ⟨?_, ?_⟩
    focus (go_simp; done)
    focus (intro w hSw; obtain ⟨a0, a1, a2, a3, a4, a5, b0, b1, b2, b3, b4, b5, l0, l1, l2, l3, l4, l5, l6, l7, l8, l9, l10, l11, t1, t2, t3⟩ := HALL.out _ hSw; (first | (go_simp; done) | (go_simp; with_reducible rfl)))
    focus assumption
    (try simp only [Act.put, List.setIfInBounds_toArray, List.set_cons_zero, List.set_cons_succ])
    refine' wpAnyH_take (i := 19) (v := _) ?_ ?_ ?_ ?_ ?_ ?_ ?_ ?_
    rotate_left 2
    focus (simp only [List.getElem?_toArray, List.getElem?_cons_succ, List.getElem?_cons_zero]; rfl)
    focus kernel_rfl
    focus kernel_rfl
    focus kernel_rfl
    focus exact (fun _ _ _ h => h)
    refine Or.inl ⟨?_, ?_⟩
    focus (go_simp; done)
    focus (intro w hSw; obtain ⟨a0, a1, a2, a3, a4, a5, b0, b1, b2, b3, b4, b5, l0, l1, l2, l3, l4, l5, l6, l7, l8, l9, l10, l11, t1, t2, t3⟩ := HALL.out _ hSw; (first | (go_simp; done) | (go_simp; with_reducible rfl)))
    focus assumption
    (try simp only [Act.put, List.setIfInBounds_toArray, List.set_cons_zero, List.set_cons_succ])
    refine' wpAnyH_take (i := 20) (v := _) ?_ ?_ ?_ ?_ ?_ ?_ ?_ ?_
    rotate_left 2
    focus (simp only [List.getElem?_toArray, List.getElem?_cons_succ, List.getElem?_cons_zero]; rfl)
    focus kernel_rfl
    focus kernel_rfl
    focus kernel_rfl
    focus exact (fun _ _ _ h => h)
    refine Or.inl ⟨?_, ?_⟩
    focus (go_simp; done)
    focus (intro w hSw; obtain ⟨a0, a1, a2, a3, a4, a5, b0, b1, b2, b3, b4, b5, l0, l1, l2, l3, l4, l5, l6, l7, l8, l9, l10, l11, t1, t2, t3⟩ := HALL.out _ hSw; (first | (go_simp; done) | (go_simp; with_reducible rfl)))
    focus assumption
    (try simp only [Act.put, List.setIfInBounds_toArray, List.set_cons_zero, List.set_cons_succ])
    refine' wpAnyH_take (i := 21) (v := _) ?_ ?_ ?_ ?_ ?_ ?_ ?_ ?_
    rotate_left 2
    focus (simp only [List.getElem?_toArray, List.getElem?_cons_succ, List.getElem?_cons_zero]; rfl)
    focus kernel_rfl
    focus kernel_rfl
    focus kernel_rfl
    focus exact (fun _ _ _ h => h)
    refine Or.inl ⟨?_, ?_⟩
    focus (go_simp; done)
    focus (intro w hSw; obtain ⟨a0, a1, a2, a3, a4, a5, b0, b1, b2, b3, b4, b5, l0, l1, l2, l3, l4, l5, l6, l7, l8, l9, l10, l11, t1, t2, t3⟩ := HALL.out _ hSw; (first | (go_simp; done) | (go_simp; with_reducible rfl)))
    focus assumption
    (try simp only [Act.put, List.setIfInBounds_toArray, List.set_cons_zero, List.set_cons_succ])
    refine' wpAnyH_take (i := 22) (v := _) ?_ ?_ ?_ ?_ ?_ ?_ ?_ ?_
    rotate_left 2
    focus (simp only [List.getElem?_toArray, List.getElem?_cons_succ, List.getElem?_cons_zero]; rfl)
    focus kernel_rfl
    focus kernel_rfl
    focus kernel_rfl
    focus exact (fun _ _ _ h => h)
    refine Or.inl ⟨?_, ?_⟩
    focus (go_simp; done)
    focus (intro w hSw; obtain ⟨a0, a1, a2, a3, a4, a5, b0, b1, b2, b3, b4, b5, l0, l1, l2, l3, l4, l5, l6, l7, l8, l9, l10, l11, t1, t2, t3⟩ := HALL.out _ hSw; (first | (go_simp; done) | (go_simp; with_reducible rfl)))
    focus assumption
    (try simp only [Act.put, List.setIfInBounds_toArray, List.set_cons_zero, List.set_cons_succ])
    refine' wpAnyH_take (i := 23) (v := _) ?_ ?_ ?_ ?_ ?_ ?_ ?_ ?_
    rotate_left 2
    focus (simp only [List.getElem?_toArray, List.getElem?_cons_succ, List.getElem?_cons_zero]; rfl)
    focus kernel_rfl
    focus kernel_rfl
    focus kernel_rfl
    focus exact (fun _ _ _ h => h)
    refine Or.inl ⟨?_, ?_⟩
    focus (go_simp; done)
    focus (intro w hSw; obtain ⟨a0, a1, a2, a3, a4, a5, b0, b1, b2, b3, b4, b5, l0, l1, l2, l3, l4, l5, l6, l7, l8, l9, l10, l11, t1, t2, t3⟩ := HALL.out _ hSw; (first | (go_simp; done) | (go_simp; with_reducible rfl)))
    focus assumption
    (try simp only [Act.put, List.setIfInBounds_toArray, List.set_cons_zero, List.set_cons_succ])
    refine' wpAnyH_take (i := 24) (v := _) ?_ ?_ ?_ ?_ ?_ ?_ ?_ ?_
    rotate_left 2
    focus (simp only [List.getElem?_toArray, List.getElem?_cons_succ, List.getElem?_cons_zero]; rfl)
    focus kernel_rfl
    focus kernel_rfl
    focus kernel_rfl
    focus exact (fun _ _ _ h => h)
    refine Or.inl ⟨?_, ?_⟩
    focus (go_simp; done)
    focus (intro w hSw; obtain ⟨a0, a1, a2, a3, a4, a5, b0, b1, b2, b3, b4, b5, l0, l1, l2, l3, l4, l5, l6, l7, l8, l9, l10, l11, t1, t2, t3⟩ := HALL.out _ hSw; (first | (go_simp; done) | (go_simp; with_reducible rfl)))
    focus assumption
    (try simp only [Act.put, List.setIfInBounds_toArray, List.set_cons_zero, List.set_cons_succ])
    refine' wpAnyH_take (i := 25) (v := _) ?_ ?_ ?_ ?_ ?_ ?_ ?_ ?_
    rotate_left 2
    focus (simp only [List.getElem?_toArray, List.getElem?_cons_succ, List.getElem?_cons_zero]; rfl)
    focus kernel_rfl
    focus kernel_rfl
    focus kernel_rfl
    focus exact (fun _ _ _ h => h)
    refine Or.inl ⟨?_, ?_⟩
    focus (go_simp; done)
    focus (intro w hSw; obtain ⟨a0, a1, a2, a3, a4, a5, b0, b1, b2, b3, b4, b5, l0, l1, l2, l3, l4, l5, l6, l7, l8, l9, l10, l11, t1, t2, t3⟩ := HALL.out _ hSw; (first | (go_simp; done) | (go_simp; with_reducible rfl)))
    focus assumption
    (try simp only [Act.put, List.setIfInBounds_toArray, List.set_cons_zero, List.set_cons_succ])
    refine' wpAnyH_take (i := 26) (v := _) ?_ ?_ ?_ ?_ ?_ ?_ ?_ ?_
    rotate_left 2
    focus (simp only [List.getElem?_toArray, List.getElem?_cons_succ, List.getElem?_cons_zero]; rfl)
    focus kernel_rfl
    focus kernel_rfl
    focus kernel_rfl
    focus exact (fun _ _ _ h => h)
    refine Or.inl ⟨?_, ?_⟩
    focus (go_simp; done)
    focus (intro w hSw; obtain ⟨a0, a1, a2, a3, a4, a5, b0, b1, b2, b3, b4, b5, l0, l1, l2, l3, l4, l5, l6, l7, l8, l9, l10, l11, t1, t2, t3⟩ := HALL.out _ hSw; (first | (go_simp; done) | (go_simp; with_reducible rfl)))
    focus assumption
    (try simp only [Act.put, List.setIfInBounds_toArray, List.set_cons_zero, List.set_cons_succ])
    refine' wpAnyH_take (i := 27) (v := _) ?_ ?_ ?_ ?_ ?_ ?_ ?_ ?_
    rotate_left 2
    focus (simp only [List.getElem?_toArray, List.getElem?_cons_succ, List.getElem?_cons_zero]; rfl)
    focus kernel_rfl
    focus kernel_rfl
    focus kernel_rfl
    focus exact (fun _ _ _ h => h)
    refine Or.inl ⟨?_, ?_⟩
    focus (go_simp; done)
    focus (intro w hSw; obtain ⟨a0, a1, a2, a3, a4, a5, b0, b1, b2, b3, b4, b5, l0, l1, l2, l3, l4, l5, l6, l7, l8, l9, l10, l11, t1, t2, t3⟩ := HALL.out _ hSw; (first | (go_simp; done) | (go_simp; with_reducible rfl)))
    focus assumption
    (try simp only [Act.put, List.setIfInBounds_toArray, List.set_cons_zero, List.set_cons_succ])
    refine' wpAnyH_take (i := 28) (v := _) ?_ ?_ ?_ ?_ ?_ ?_ ?_ ?_
    rotate_left 2
    focus (simp only [List.getElem?_toArray, List.getElem?_cons_succ, List.getElem?_cons_zero]; rfl)
    focus kernel_rfl
    focus kernel_rfl
    focus kernel_rfl
    focus exact (fun _ _ _ h => h)
    refine Or.inl ⟨?_, ?_⟩
    focus (go_simp; done)
    focus (intro w hSw; obtain ⟨a0, a1, a2, a3, a4, a5, b0, b1, b2, b3, b4, b5, l0, l1, l2, l3, l4, l5, l6, l7, l8, l9, l10, l11, t1, t2, t3⟩ := HALL.out _ hSw; (first | (go_simp; done) | (go_simp; with_reducible rfl)))
    focus assumption
    (try simp only [Act.put, List.setIfInBounds_toArray, List.set_cons_zero, List.set_cons_succ])
    refine' wpAnyH_take (i := 29) (v := _) ?_ ?_ ?_ ?_ ?_ ?_ ?_ ?_
    rotate_left 2
    focus (simp only [List.getElem?_toArray, List.getElem?_cons_succ, List.getElem?_cons_zero]; rfl)
    focus kernel_rfl
    focus kernel_rfl
    focus kernel_rfl
    focus exact (fun _ _ _ h => h)
    refine Or.inl ⟨?_, ?_⟩
    focus (go_simp; done)
    focus (intro w hSw; obtain ⟨a0, a1, a2, a3, a4, a5, b0, b1, b2, b3, b4, b5, l0, l1, l2, l3, l4, l5, l6, l7, l8, l9, l10, l11, t1, t2, t3⟩ := HALL.out _ hSw; (first | (go_simp; done) | (go_simp; with_reducible rfl)))
    focus assumption
    (try simp only [Act.put, List.setIfInBounds_toArray, List.set_cons_zero, List.set_cons_succ])
    refine' wpAnyH_take (i := 30) (v := _) ?_ ?_ ?_ ?_ ?_ ?_ ?_ ?_
    rotate_left 2
    focus (simp only [List.getElem?_toArray, List.getElem?_cons_succ, List.getElem?_cons_zero]; rfl)
    focus kernel_rfl
    focus kernel_rfl
    focus kernel_rfl
    focus exact (fun _ _ _ h => h)
    refine Or.inl ⟨?_, ?_⟩
    focus (go_simp; done)
    focus (intro w hSw; obtain ⟨a0, a1, a2, a3, a4, a5, b0, b1, b2, b3, b4, b5, l0, l1, l2, l3, l4, l5, l6, l7, l8, l9, l10, l11, t1, t2, t3⟩ := HALL.out _ hSw; (first | (go_simp; done) | (go_simp; with_reducible rfl)))
    focus assumption
    (try simp only [Act.put, List.setIfInBounds_toArray, List.set_cons_zero, List.set_cons_succ])
    refine' wpAnyH_take (i := 31) (v := _) ?_ ?_ ?_ ?_ ?_ ?_ ?_ ?_
    rotate_left 2
    focus (simp only [List.getElem?_toArray, List.getElem?_cons_succ, List.getElem?_cons_zero]; rfl)
    focus kernel_rfl
    focus kernel_rfl
    focus kernel_rfl
    focus exact (fun _ _ _ h => h)
    refine Or.inl ⟨?_, ?_⟩
    focus (go_simp; done)
    focus (intro w hSw; obtain ⟨a0, a1, a2, a3, a4, a5, b0, b1, b2, b3, b4, b5, l0, l1, l2, l3, l4, l5, l6, l7, l8, l9, l10, l11, t1, t2, t3⟩ := HALL.out _ hSw; (first | (go_simp; done) | (go_simp; with_reducible rfl)))
    focus assumption
    (try simp only [Act.put, List.setIfInBounds_toArray, List.set_cons_zero, List.set_cons_succ])
    refine' wpAnyH_take (i := 32) (v := _) ?_ ?_ ?_ ?_ ?_ ?_ ?_ ?_
    rotate_left 2
    focus (simp only [List.getElem?_toArray, List.getElem?_cons_succ, List.getElem?_cons_zero]; rfl)
    focus kernel_rfl
    focus kernel_rfl
    focus kernel_rfl
    focus exact (fun _ _ _ h => h)
    refine Or.inl ⟨?_, ?_⟩
    focus (go_simp; done)
    focus (intro w hSw; obtain ⟨a0, a1, a2, a3, a4, a5, b0, b1, b2, b3, b4, b5, l0, l1, l2, l3, l4, l5, l6, l7, l8, l9, l10, l11, t1, t2, t3⟩ := HALL.out _ hSw; (first | (go_simp; done) | (go_simp; with_reducible rfl)))
    focus assumption
    (try simp only [Act.put, List.setIfInBounds_toArray, List.set_cons_zero, List.set_cons_succ])
    refine' wpAnyH_take (i := 33) (v := _) ?_ ?_ ?_ ?_ ?_ ?_ ?_ ?_
    rotate_left 2
    focus (simp only [List.getElem?_toArray, List.getElem?_cons_succ, List.getElem?_cons_zero]; rfl)
    focus kernel_rfl
    focus kernel_rfl
    focus kernel_rfl
    focus exact (fun _ _ _ h => h)
    refine Or.inl ⟨?_, ?_⟩
    focus (go_simp; done)
    focus (intro w hSw; obtain ⟨a0, a1, a2, a3, a4, a5, b0, b1, b2, b3, b4, b5, l0, l1, l2, l3, l4, l5, l6, l7, l8, l9, l10, l11, t1, t2, t3⟩ := HALL.out _ hSw; (first | (go_simp; done) | (go_simp; with_reducible rfl)))
    focus assumption
    (try simp only [Act.put, List.setIfInBounds_toArray, List.set_cons_zero, List.set_cons_succ])
    refine' wpAnyH_take (i := 34) (v := _) ?_ ?_ ?_ ?_ ?_ ?_ ?_ ?_
    rotate_left 2
    focus (simp only [List.getElem?_toArray, List.getElem?_cons_succ, List.getElem?_cons_zero]; rfl)
    focus kernel_rfl
    focus kernel_rfl
    focus kernel_rfl
    focus exact (fun _ _ _ h => h)
    refine Or.inl ⟨?_, ?_⟩
    focus (go_simp; done)
    focus (intro w hSw; obtain ⟨a0, a1, a2, a3, a4, a5, b0, b1, b2, b3, b4, b5, l0, l1, l2, l3, l4, l5, l6, l7, l8, l9, l10, l11, t1, t2, t3⟩ := HALL.out _ hSw; (first | (go_simp; done) | (go_simp; with_reducible rfl)))
    focus assumption
    (try simp only [Act.put, List.setIfInBounds_toArray, List.set_cons_zero, List.set_cons_succ])
    refine' wpAnyH_take (i := 35) (v := _) ?_ ?_ ?_ ?_ ?_ ?_ ?_ ?_
    rotate_left 2
    focus (simp only [List.getElem?_toArray, List.getElem?_cons_succ, List.getElem?_cons_zero]; rfl)
    focus kernel_rfl
    focus kernel_rfl
    focus kernel_rfl
    focus exact (fun _ _ _ h => h)
    refine Or.inl ⟨?_, ?_⟩
    focus (go_simp; done)
    focus (intro w hSw; obtain ⟨a0, a1, a2, a3, a4, a5, b0, b1, b2, b3, b4, b5, l0, l1, l2, l3, l4, l5, l6, l7, l8, l9, l10, l11, t1, t2, t3⟩ := HALL.out _ hSw; (first | (go_simp; done) | (go_simp; with_reducible rfl)))
    focus assumption
    (try simp only [Act.put, List.setIfInBounds_toArray, List.set_cons_zero, List.set_cons_succ])
    refine' wpAnyH_take (i := 36) (v := _) ?_ ?_ ?_ ?_ ?_ ?_ ?_ ?_
    rotate_left 2
    focus (simp only [List.getElem?_toArray, List.getElem?_cons_succ, List.getElem?_cons_zero]; rfl)
    focus kernel_rfl
    focus kernel_rfl
    focus kernel_rfl
    focus exact (fun _ _ _ h => h)
    refine Or.inl ⟨?_, ?_⟩
    focus (go_simp; done)
    focus (intro w hSw; obtain ⟨a0, a1, a2, a3, a4, a5, b0, b1, b2, b3, b4, b5, l0, l1, l2, l3, l4, l5, l6, l7, l8, l9, l10, l11, t1, t2, t3⟩ := HALL.out _ hSw; (first | (go_simp; done) | (go_simp; with_reducible rfl)))
    focus assumption
    (try simp only [Act.put, List.setIfInBounds_toArray, List.set_cons_zero, List.set_cons_succ])
    refine' wpAnyH_take (i := 37) (v := _) ?_ ?_ ?_ ?_ ?_ ?_ ?_ ?_
    rotate_left 2
    focus (simp only [List.getElem?_toArray, List.getElem?_cons_succ, List.getElem?_cons_zero]; rfl)
    focus kernel_rfl
    focus kernel_rfl
    focus kernel_rfl
    focus exact (fun _ _ _ h => h)
    refine Or.inl ⟨?_, ?_⟩
    focus (go_simp; done)
    focus (intro w hSw; obtain ⟨a0, a1, a2, a3, a4, a5, b0, b1, b2, b3, b4, b5, l0, l1, l2, l3, l4, l5, l6, l7, l8, l9, l10, l11, t1, t2, t3⟩ := HALL.out _ hSw; (first | (go_simp; done) | (go_simp; with_reducible rfl)))
    focus assumption
    (try simp only [Act.put, List.setIfInBounds_toArray, List.set_cons_zero, List.set_cons_succ])
    refine' wpAnyH_take (i := 38) (v := _) ?_ ?_ ?_ ?_ ?_ ?_ ?_ ?_
    rotate_left 2
    focus (simp only [List.getElem?_toArray, List.getElem?_cons_succ, List.getElem?_cons_zero]; rfl)
    focus kernel_rfl
    focus kernel_rfl
    focus kernel_rfl
    focus exact (fun _ _ _ h => h)
    refine Or.inl ⟨?_, ?_⟩
    focus (go_simp; done)
    focus (intro w hSw; obtain ⟨a0, a1, a2, a3, a4, a5, b0, b1, b2, b3, b4, b5, l0, l1, l2, l3, l4, l5, l6, l7, l8, l9, l10, l11, t1, t2, t3⟩ := HALL.out _ hSw; (first | (go_simp; done) | (go_simp; with_reducible rfl)))
    focus assumption
    (try simp only [Act.put, List.setIfInBounds_toArray, List.set_cons_zero, List.set_cons_succ])
    refine' wpAnyH_take (i := 39) (v := _) ?_ ?_ ?_ ?_ ?_ ?_ ?_ ?_
    rotate_left 2
    focus (simp only [List.getElem?_toArray, List.getElem?_cons_succ, List.getElem?_cons_zero]; rfl)
    focus kernel_rfl
    focus kernel_rfl
    focus kernel_rfl
    focus exact (fun _ _ _ h => h)
    refine Or.inl ⟨?_, ?_⟩
    focus (go_simp; done)
    focus (intro w hSw; obtain ⟨a0, a1, a2, a3, a4, a5, b0, b1, b2, b3, b4, b5, l0, l1, l2, l3, l4, l5, l6, l7, l8, l9, l10, l11, t1, t2, t3⟩ := HALL.out _ hSw; (first | (go_simp; done) | (go_simp; with_reducible rfl)))
    focus assumption
    (try simp only [Act.put, List.setIfInBounds_toArray, List.set_cons_zero, List.set_cons_succ])
    refine' wpAnyH_take (i := 40) (v := _) ?_ ?_ ?_ ?_ ?_ ?_ ?_ ?_
    rotate_left 2
    focus (simp only [List.getElem?_toArray, List.getElem?_cons_succ, List.getElem?_cons_zero]; rfl)
    focus kernel_rfl
    focus kernel_rfl
    focus kernel_rfl
    focus exact (fun _ _ _ h => h)
    refine Or.inl ⟨?_, ?_⟩
    focus (go_simp; done)
    focus (intro w hSw; obtain ⟨a0, a1, a2, a3, a4, a5, b0, b1, b2, b3, b4, b5, l0, l1, l2, l3, l4, l5, l6, l7, l8, l9, l10, l11, t1, t2, t3⟩ := HALL.out _ hSw; (first | (go_simp; done) | (go_simp; with_reducible rfl)))
    focus assumption
    (try simp only [Act.put, List.setIfInBounds_toArray, List.set_cons_zero, List.set_cons_succ])
    refine' wpAnyH_take (i := 41) (v := _) ?_ ?_ ?_ ?_ ?_ ?_ ?_ ?_
    rotate_left 2
    focus (simp only [List.getElem?_toArray, List.getElem?_cons_succ, List.getElem?_cons_zero]; rfl)
    focus kernel_rfl
    focus kernel_rfl
    focus kernel_rfl
    focus exact (fun _ _ _ h => h)
    refine Or.inl ⟨?_, ?_⟩
    focus (go_simp; done)
    focus (intro w hSw; obtain ⟨a0, a1, a2, a3, a4, a5, b0, b1, b2, b3, b4, b5, l0, l1, l2, l3, l4, l5, l6, l7, l8, l9, l10, l11, t1, t2, t3⟩ := HALL.out _ hSw; (first | (go_simp; done) | (go_simp; with_reducible rfl)))
    focus assumption
    (try simp only [Act.put, List.setIfInBounds_toArray, List.set_cons_zero, List.set_cons_succ])
    refine' wpAnyH_take (i := 42) (v := _) ?_ ?_ ?_ ?_ ?_ ?_ ?_ ?_
    rotate_left 2
    focus (simp only [List.getElem?_toArray, List.getElem?_cons_succ, List.getElem?_cons_zero]; rfl)
    focus kernel_rfl
    focus kernel_rfl
    focus kernel_rfl
    focus exact (fun _ _ _ h => h)
    refine Or.inl ⟨?_, ?_⟩
    focus (go_simp; done)
    focus (intro w hSw; obtain ⟨a0, a1, a2, a3, a4, a5, b0, b1, b2, b3, b4, b5, l0, l1, l2, l3, l4, l5, l6, l7, l8, l9, l10, l11, t1, t2, t3⟩ := HALL.out _ hSw; (first | (go_simp; done) | (go_simp; with_reducible rfl)))
    focus assumption
    (try simp only [Act.put, List.setIfInBounds_toArray, List.set_cons_zero, List.set_cons_succ])
    refine' wpAnyH_take (i := 43) (v := _) ?_ ?_ ?_ ?_ ?_ ?_ ?_ ?_
    rotate_left 2
    focus (simp only [List.getElem?_toArray, List.getElem?_cons_succ, List.getElem?_cons_zero]; rfl)
    focus kernel_rfl
    focus kernel_rfl
    focus kernel_rfl
    focus exact (fun _ _ _ h => h)
    refine Or.inl ⟨?_, ?_⟩
    focus (go_simp; done)
    focus (intro w hSw; obtain ⟨a0, a1, a2, a3, a4, a5, b0, b1, b2, b3, b4, b5, l0, l1, l2, l3, l4, l5, l6, l7, l8, l9, l10, l11, t1, t2, t3⟩ := HALL.out _ hSw; (first | (go_simp; done) | (go_simp; with_reducible rfl)))
    focus assumption
    (try simp only [Act.put, List.setIfInBounds_toArray, List.set_cons_zero, List.set_cons_succ])
    refine' wpAnyH_take (i := 44) (v := _) ?_ ?_ ?_ ?_ ?_ ?_ ?_ ?_
    rotate_left 2
    focus (simp only [List.getElem?_toArray, List.getElem?_cons_succ, List.getElem?_cons_zero]; rfl)
    focus kernel_rfl
    focus kernel_rfl
    focus kernel_rfl
    focus exact (fun _ _ _ h => h)
    refine Or.inl ⟨?_, ?_⟩
    focus (go_simp; done)
    focus (intro w hSw; obtain ⟨a0, a1, a2, a3, a4, a5, b0, b1, b2, b3, b4, b5, l0, l1, l2, l3, l4, l5, l6, l7, l8, l9, l10, l11, t1, t2, t3⟩ := HALL.out _ hSw; (first | (go_simp; done) | (go_simp; with_reducible rfl)))
    focus assumption
    (try simp only [Act.put, List.setIfInBounds_toArray, List.set_cons_zero, List.set_cons_succ])
    refine' wpAnyH_take (i := 45) (v := _) ?_ ?_ ?_ ?_ ?_ ?_ ?_ ?_
    rotate_left 2
    focus (simp only [List.getElem?_toArray, List.getElem?_cons_succ, List.getElem?_cons_zero]; rfl)
    focus kernel_rfl
    focus kernel_rfl
    focus kernel_rfl
    focus exact (fun _ _ _ h => h)
    refine Or.inl ⟨?_, ?_⟩
    focus (go_simp; done)
    focus (intro w hSw; obtain ⟨a0, a1, a2, a3, a4, a5, b0, b1, b2, b3, b4, b5, l0, l1, l2, l3, l4, l5, l6, l7, l8, l9, l10, l11, t1, t2, t3⟩ := HALL.out _ hSw; (first | (go_simp; done) | (go_simp; with_reducible rfl)))
    focus assumption
    (try simp only [Act.put, List.setIfInBounds_toArray, List.set_cons_zero, List.set_cons_succ])
    refine' wpAnyH_take (i := 46) (v := _) ?_ ?_ ?_ ?_ ?_ ?_ ?_ ?_
    rotate_left 2
    focus (simp only [List.getElem?_toArray, List.getElem?_cons_succ, List.getElem?_cons_zero]; rfl)
    focus kernel_rfl
    focus kernel_rfl
    focus kernel_rfl
    focus exact (fun _ _ _ h => h)
    refine Or.inl ⟨?_, ?_⟩
    focus (go_simp; done)
    focus (intro w hSw; obtain ⟨a0, a1, a2, a3, a4, a5, b0, b1, b2, b3, b4, b5, l0, l1, l2, l3, l4, l5, l6, l7, l8, l9, l10, l11, t1, t2, t3⟩ := HALL.out _ hSw; (first | (go_simp; done) | (go_simp; with_reducible rfl)))
    focus assumption
    (try simp only [Act.put, List.setIfInBounds_toArray, List.set_cons_zero, List.set_cons_succ])
    refine' wpAnyH_take (i := 47) (v := _) ?_ ?_ ?_ ?_ ?_ ?_ ?_ ?_
    rotate_left 2
    focus (simp only [List.getElem?_toArray, List.getElem?_cons_succ, List.getElem?_cons_zero]; rfl)
    focus kernel_rfl
    focus kernel_rfl
    focus kernel_rfl
    focus exact (fun _ _ _ h => h)
    refine Or.inl ⟨?_, ?_⟩
    focus (go_simp; done)
    focus (intro w hSw; obtain ⟨a0, a1, a2, a3, a4, a5, b0, b1, b2, b3, b4, b5, l0, l1, l2, l3, l4, l5, l6, l7, l8, l9, l10, l11, t1, t2, t3⟩ := HALL.out _ hSw; (first | (go_simp; done) | (go_simp; with_reducible rfl)))
    focus assumption
    (try simp only [Act.put, List.setIfInBounds_toArray, List.set_cons_zero, List.set_cons_succ])
    refine' wpAnyH_take (i := 48) (v := _) ?_ ?_ ?_ ?_ ?_ ?_ ?_ ?_
    rotate_left 2
    focus (simp only [List.getElem?_toArray, List.getElem?_cons_succ, List.getElem?_cons_zero]; rfl)
    focus kernel_rfl
    focus kernel_rfl
    focus kernel_rfl
    focus exact (fun _ _ _ h => h)
    refine Or.inl ⟨?_, ?_⟩
    focus (go_simp; done)
    focus (intro w hSw; obtain ⟨a0, a1, a2, a3, a4, a5, b0, b1, b2, b3, b4, b5, l0, l1, l2, l3, l4, l5, l6, l7, l8, l9, l10, l11, t1, t2, t3⟩ := HALL.out _ hSw; (first | (go_simp; done) | (go_simp; with_reducible rfl)))
    focus assumption
    (try simp only [Act.put, List.setIfInBounds_toArray, List.set_cons_zero, List.set_cons_succ])
    refine' wpAnyH_take (i := 49) (v := _) ?_ ?_ ?_ ?_ ?_ ?_ ?_ ?_
    rotate_left 2
    focus (simp only [List.getElem?_toArray, List.getElem?_cons_succ, List.getElem?_cons_zero]; rfl)
    focus kernel_rfl
    focus kernel_rfl
    focus kernel_rfl
    focus exact (fun _ _ _ h => h)
    refine Or.inl ⟨?_, ?_⟩
    focus (go_simp; done)
    focus (intro w hSw; obtain ⟨a0, a1, a2, a3, a4, a5, b0, b1, b2, b3, b4, b5, l0, l1, l2, l3, l4, l5, l6, l7, l8, l9, l10, l11, t1, t2, t3⟩ := HALL.out _ hSw; (first | (go_simp; done) | (go_simp; with_reducible rfl)))
    focus assumption
    (try simp only [Act.put, List.setIfInBounds_toArray, List.set_cons_zero, List.set_cons_succ])
    refine' wpAnyH_take (i := 50) (v := _) ?_ ?_ ?_ ?_ ?_ ?_ ?_ ?_
    rotate_left 2
    focus (simp only [List.getElem?_toArray, List.getElem?_cons_succ, List.getElem?_cons_zero]; rfl)
    focus kernel_rfl
    focus kernel_rfl
    focus kernel_rfl
    focus exact (fun _ _ _ h => h)
    refine Or.inl ⟨?_, ?_⟩
    focus (go_simp; done)
    focus (intro w hSw; obtain ⟨a0, a1, a2, a3, a4, a5, b0, b1, b2, b3, b4, b5, l0, l1, l2, l3, l4, l5, l6, l7, l8, l9, l10, l11, t1, t2, t3⟩ := HALL.out _ hSw; (first | (go_simp; done) | (go_simp; with_reducible rfl)))
    focus assumption
    (try simp only [Act.put, List.setIfInBounds_toArray, List.set_cons_zero, List.set_cons_succ])
    refine' wpAnyH_take (i := 51) (v := _) ?_ ?_ ?_ ?_ ?_ ?_ ?_ ?_
    rotate_left 2
    focus (simp only [List.getElem?_toArray, List.getElem?_cons_succ, List.getElem?_cons_zero]; rfl)
    focus kernel_rfl
    focus kernel_rfl
    focus kernel_rfl
    focus exact (fun _ _ _ h => h)
    refine Or.inl ⟨?_, ?_⟩
    focus (go_simp; done)
    focus (intro w hSw; obtain ⟨a0, a1, a2, a3, a4, a5, b0, b1, b2, b3, b4, b5, l0, l1, l2, l3, l4, l5, l6, l7, l8, l9, l10, l11, t1, t2, t3⟩ := HALL.out _ hSw; (first | (go_simp; done) | (go_simp; with_reducible rfl)))
    focus assumption
    (try simp only [Act.put, List.setIfInBounds_toArray, List.set_cons_zero, List.set_cons_succ])
    refine' wpAnyH_take (i := 52) (v := _) ?_ ?_ ?_ ?_ ?_ ?_ ?_ ?_
    rotate_left 2
    focus (simp only [List.getElem?_toArray, List.getElem?_cons_succ, List.getElem?_cons_zero]; rfl)
    focus kernel_rfl
    focus kernel_rfl
    focus kernel_rfl
    focus exact (fun _ _ _ h => h)
    refine Or.inl ⟨?_, ?_⟩
    focus (go_simp; done)
    focus (intro w hSw; obtain ⟨a0, a1, a2, a3, a4, a5, b0, b1, b2, b3, b4, b5, l0, l1, l2, l3, l4, l5, l6, l7, l8, l9, l10, l11, t1, t2, t3⟩ := HALL.out _ hSw; (first | (go_simp; done) | (go_simp; with_reducible rfl)))
    focus assumption
    (try simp only [Act.put, List.setIfInBounds_toArray, List.set_cons_zero, List.set_cons_succ])
    refine' wpAnyH_take (i := 53) (v := _) ?_ ?_ ?_ ?_ ?_ ?_ ?_ ?_
    rotate_left 2
    focus (simp only [List.getElem?_toArray, List.getElem?_cons_succ, List.getElem?_cons_zero]; rfl)
    focus kernel_rfl
    focus kernel_rfl
    focus kernel_rfl
    focus exact (fun _ _ _ h => h)
    refine Or.inl ⟨?_, ?_⟩
    focus (go_simp; done)
    focus (intro w hSw; obtain ⟨a0, a1, a2, a3, a4, a5, b0, b1, b2, b3, b4, b5, l0, l1, l2, l3, l4, l5, l6, l7, l8, l9, l10, l11, t1, t2, t3⟩ := HALL.out _ hSw; (first | (go_simp; done) | (go_simp; with_reducible rfl)))
    focus assumption
    (try simp only [Act.put, List.setIfInBounds_toArray, List.set_cons_zero, List.set_cons_succ])
    refine' wpAnyH_take (i := 54) (v := _) ?_ ?_ ?_ ?_ ?_ ?_ ?_ ?_
    rotate_left 2
    focus (simp only [List.getElem?_toArray, List.getElem?_cons_succ, List.getElem?_cons_zero]; rfl)
    focus kernel_rfl
    focus kernel_rfl
    focus kernel_rfl
    focus exact (fun _ _ _ h => h)
    refine Or.inl ⟨?_, ?_⟩
    focus (go_simp; done)
    focus (intro w hSw; obtain ⟨a0, a1, a2, a3, a4, a5, b0, b1, b2, b3, b4, b5, l0, l1, l2, l3, l4, l5, l6, l7, l8, l9, l10, l11, t1, t2, t3⟩ := HALL.out _ hSw; (first | (go_simp; done) | (go_simp; with_reducible rfl)))
    focus assumption
    (try simp only [Act.put, List.setIfInBounds_toArray, List.set_cons_zero, List.set_cons_succ])
    refine wpAnyH_ready (rs := [55]) (by kernel_rfl) (by simp) ?_
    refine' AllReadyH.cons ?_ (fun K hK => ?_) AllReadyH.nil
    rotate_left
    focus (simp only [List.getElem?_toArray, List.getElem?_cons_succ, List.getElem?_cons_zero]; rfl)
    go_simp
    go_at_call 10
    refine Calls.mono (awake_any _) ?_
    rintro e w9 ⟨rfl, hb⟩
    refine hK.out _ _ (blt hHeld hb) (fun hHeld => ?_)
    clear hK K
    (try simp only [Act.put, List.setIfInBounds_toArray, List.set_cons_zero, List.set_cons_succ])
    clear hb
    refine' wpAnyH_take (i := 56) (v := _) ?_ ?_ ?_ ?_ ?_ ?_ ?_ ?_
    rotate_left 2
    focus (simp only [List.getElem?_toArray, List.getElem?_cons_succ, List.getElem?_cons_zero]; rfl)
    focus kernel_rfl
    focus kernel_rfl
    focus kernel_rfl
    focus exact (fun _ _ _ h => h)
    refine Or.inl ⟨?_, ?_⟩
    focus (go_simp; done)
    focus (intro w hSw; obtain ⟨a0, a1, a2, a3, a4, a5, b0, b1, b2, b3, b4, b5, l0, l1, l2, l3, l4, l5, l6, l7, l8, l9, l10, l11, t1, t2, t3⟩ := HALL.out _ hSw; (first | (go_simp; done) | (go_simp; with_reducible rfl)))
    focus assumption
    (try simp only [Act.put, List.setIfInBounds_toArray, List.set_cons_zero, List.set_cons_succ])
    refine' wpAnyH_take (i := 57) (v := _) ?_ ?_ ?_ ?_ ?_ ?_ ?_ ?_
    rotate_left 2
    focus (simp only [List.getElem?_toArray, List.getElem?_cons_succ, List.getElem?_cons_zero]; rfl)
    focus kernel_rfl
    focus kernel_rfl
    focus kernel_rfl
    focus exact (fun _ _ _ h => h)
    refine Or.inl ⟨?_, ?_⟩
    focus (go_simp; done)
    focus (intro w hSw; obtain ⟨a0, a1, a2, a3, a4, a5, b0, b1, b2, b3, b4, b5, l0, l1, l2, l3, l4, l5, l6, l7, l8, l9, l10, l11, t1, t2, t3⟩ := HALL.out _ hSw; (first | (go_simp; done) | (go_simp; with_reducible rfl)))
    focus assumption
    (try simp only [Act.put, List.setIfInBounds_toArray, List.set_cons_zero, List.set_cons_succ])
    refine wpAnyH_done (by kernel_rfl) ?_ _
    have HZ := Lib.hid hHeld
    clear hHeld hN1 hN2 hN3 hst hC hg
    go_wp2
    go_ret
    exact ⟨rfl, blt HBel.out HZ.out⟩
end Go.Proofs.Ythcjohfngnffpaa
