/- The generator's expr. -/
import Derived.Test.YtbppfhlpielpcaaDoorGnBas
namespace Go.Proofs.YtbppfhlpielpcaaDoor
open Go.RowKit
set_option linter.unusedVariables false
/-- What expr leaves. -/
def ExPost (C : Cx) (s : Ms) (h : Nat) (w : World) (e : Ending) (w' : World) : Prop :=
  ∃ (k n : Int) (x : ByteArray) (o : Int) (a : Exs) (A : Option Addr) (c : Nat), e = .returned (.agg #[.int .i64 k, .int .i64 n, .string x, .int .i64 o, .slice A a.len c]) ∧ ExOut w.heap.size h w' k n x o a A c ∧ Mks C s w' ∧ Gen C.D C.M C.B w w'
abbrev zEx : Array Value := #[.int .i64 0, .int .i64 0, .string ⟨#[]⟩, .int .i64 0, .slice none 0 0]
theorem Blk.five {w : World} {g : Nat} {t : TypeId} {a b c d e : Value} (h : Blk w g t #[a, b, c, d, e]) :
    (w.cell? ⟨g, 0, none⟩ = some a ∧ w.cell? ⟨g, 1, none⟩ = some b ∧ w.cell? ⟨g, 2, none⟩ = some c ∧ w.cell? ⟨g, 3, none⟩ = some d ∧ w.cell? ⟨g, 4, none⟩ = some e) ∧
    w.frozen? ⟨g, 0, none⟩ = false ∧ w.frozen? ⟨g, 1, none⟩ = false ∧ w.frozen? ⟨g, 2, none⟩ = false ∧ w.frozen? ⟨g, 3, none⟩ = false ∧ w.frozen? ⟨g, 4, none⟩ = false :=
  ⟨⟨h.cell 0, h.cell 1, h.cell 2, h.cell 3, h.cell 4⟩, h.frozen 0, h.frozen 1, h.frozen 2, h.frozen 3, h.frozen 4⟩
/-- Five cells of a block are set. -/
abbrev set5 (w : World) (g : Nat) (a b c d e : Value) : World := ((((w.setCell ⟨g, 0, none⟩ a).setCell ⟨g, 1, none⟩ b).setCell ⟨g, 2, none⟩ c).setCell ⟨g, 3, none⟩ d).setCell ⟨g, 4, none⟩ e
theorem Blk.set5 {w : World} {g : Nat} {t : TypeId} {a b c d e a' b' c' d' e' : Value} (h : Blk w g t #[a, b, c, d, e]) : Blk (set5 w g a' b' c' d' e') g t #[a', b', c', d', e'] :=
  ((((h.set 0 a').set 1 b').set 2 c').set 3 d').set 4 e'
section
variable {C : Cx} {s : Ms} {w : World}
theorem Mks.set5 {w : World} (h : Mks C s w) {g : Nat} {a b c d e a' b' c' d' e' : Value} (hb : Blk w g 91 #[a, b, c, d, e]) (hB : C.B ≤ g) : Mks C s (set5 w g a' b' c' d' e') := by
  have b0 := hb.set 0 a'
  have b1 := b0.set 1 b'
  have b2 := b1.set 2 c'
  have b3 := b2.set 3 d'
  exact ((((h.far hb (.inl rfl) hB 0 a').far b0 (.inl rfl) hB 1 b').far b1 (.inl rfl) hB 2 c').far b2 (.inl rfl) hB 3 d').far b3 (.inl rfl) hB 4 e'
theorem gen_set5 {w0 w : World} {D M B g : Nat} (h : Gen D M B w0 w) (hg : w0.heap.size ≤ g) (a b c d e : Value) : Gen D M B w0 (set5 w g a b c d e) :=
  ((((h.set (.inr (.inr hg)) a).set (.inr (.inr hg)) b).set (.inr (.inr hg)) c).set (.inr (.inr hg)) d).set (.inr (.inr hg)) e
theorem ex_set5 {w : World} {g n m ht : Nat} {k z o : Int} {x : ByteArray} {a : Exs} {A : Option Addr} {c : Nat} (hg : g < n) (hm : m ≤ n) (he : ExOut n ht w k z x o a A c) (a1 a2 a3 a4 a5 : Value) : ExOut m ht (set5 w g a1 a2 a3 a4 a5) k z x o a A c :=
  ((((he.set (i := 0) (u := a1) hg (Nat.le_refl n)).set (i := 1) (u := a2) hg (Nat.le_refl n)).set (i := 2) (u := a3) hg (Nat.le_refl n)).set (i := 3) (u := a4) hg (Nat.le_refl n)).set (i := 4) (u := a5) hg hm
/-- The result is stored, and handed back. -/
theorem ex_fin {w w4 : World} {h : Nat} {k n o : Int} {x : ByteArray} {a : Exs} {A : Option Addr} {c : Nat} (hm : Mks C s w4) (hg : Gen C.D C.M C.B (w.alloc (.cells zEx 91)) w4) (hb : Blk w4 w.heap.size 91 zEx) (hB : C.B ≤ w.heap.size)
    (he : ExOut (w.heap.size + 1) h w4 k n x o a A c) :
    ExPost C s h w (.returned (.agg #[.int .i64 k, .int .i64 n, .string x, .int .i64 o, .slice A a.len c])) (set5 w4 w.heap.size (.int .i64 k) (.int .i64 n) (.string x) (.int .i64 o) (.slice A a.len c)) :=
  ⟨k, n, x, o, a, A, c, rfl, ex_set5 (by omega) (by omega) he _ _ _ _ _, hm.set5 hb hB, gen_set5 (((Gen.refl _ _ _ w).alloc _).trans hg) (Nat.le_refl _) _ _ _ _ _⟩
theorem num_out (m h : Nat) (hh : 1 ≤ h) (w : World) (n : Int) (hn : -2147483647 ≤ n ∧ n ≤ 2147483647) : ExOut m h w 1 n ⟨#[]⟩ 0 .nil none 0 :=
  ⟨Nat.le_refl _, .inl ⟨rfl, hn, rfl, rfl, rfl⟩, trivial, hh, trivial⟩
theorem nam_out (m h : Nat) (hh : 1 ≤ h) (w : World) (x : ByteArray) (hx : Nm x) : ExOut m h w 2 0 x 0 .nil none 0 :=
  ⟨Nat.le_refl _, .inr (.inl ⟨rfl, rfl, hx, rfl, rfl⟩), trivial, hh, trivial⟩
theorem idx_out {m h : Nat} {w : World} {x y : ByteArray} {k n o : Int} {a : Exs} {A : Option Addr} {c : Nat} (hx : Nm x) (he : ExOut m h w k n y o a A c) (hm : m ≤ w.heap.size) :
    ExOut m (h + 1) (w.alloc (.cells #[.int .i64 k, .int .i64 n, .string y, .int .i64 o, .slice A a.len c] 91)) 3 0 x 0 (.cons k n y o a .nil) (some ⟨w.heap.size, 0, none⟩) 1 := by
  obtain ⟨h1, h2, h3, h4, h5⟩ := he.below (m := m) ((Below.refl _ w).alloc (Nat.le_refl _) (.cells #[.int .i64 k, .int .i64 n, .string y, .int .i64 o, .slice A a.len c] 91)) (Nat.le_refl _)
  exact ⟨Nat.le_refl _, .inr (.inr (.inl ⟨rfl, rfl, hx, rfl, rfl⟩)), ⟨h2, h3, trivial⟩, by simp only [Exs.height]; omega, at_row1 (Blk.new _ _ _) hm h1 h5⟩
theorem bin_out {m h g : Nat} {w : World} {op k n o k' n' o' : Int} {y y' : ByteArray} {a a' : Exs} {A A' : Option Addr} {c c' : Nat} (hop : 1 ≤ op ∧ op ≤ 14) (he : ExOut m h w k n y o a A c) (he' : ExOut m h w k' n' y' o' a' A' c')
    (hb : Blk w g 91 #[.int .i64 k, .int .i64 n, .string y, .int .i64 o, .slice A a.len c, .int .i64 k', .int .i64 n', .string y', .int .i64 o', .slice A' a'.len c']) (hm : m ≤ g) :
    ExOut m (h + 1) w 4 0 ⟨#[]⟩ op (.cons k n y o a (.cons k' n' y' o' a' .nil)) (some ⟨g, 0, none⟩) 2 := by
  obtain ⟨h1, h2, h3, h4, h5⟩ := he
  obtain ⟨q1, q2, q3, q4, q5⟩ := he'
  exact ⟨Nat.le_refl _, .inr (.inr (.inr ⟨rfl, rfl, rfl, hop, rfl⟩)), ⟨h2, h3, q2, q3, trivial⟩, by simp only [Exs.height]; omega, at_row2 hb hm h1 h5 q1 q5⟩
theorem ExPost.more {h h' : Nat} {w w' : World} {e : Ending} (hp : ExPost C s h w e w') (hh : h ≤ h') : ExPost C s h' w e w' := by
  obtain ⟨k, n, x, o, a, A, c, he, ⟨h1, h2, h3, h4, h5⟩, hm, hg⟩ := hp
  exact ⟨k, n, x, o, a, A, c, he, ⟨h1, h2, h3, by omega, h5⟩, hm, hg⟩
theorem own_rd {w : World} {B n g cap : Nat} {l : List ByteArray} (h : w.ownsRow B 9 1 (.slice (some ⟨g, 0, none⟩) n cap) n (l.map Value.string)) (hl : l.length = n) (hn : ∀ x ∈ l, Nm x) : Rd w g 0 n := fun i hi => by
  subst hl
  refine ⟨l[i], ?_, hn _ (List.getElem_mem hi)⟩
  have hc := h.cellAt i (by omega)
  rw [Nat.zero_add, hc, List.getElem?_map, List.getElem?_eq_getElem hi]
  rfl
theorem own_form {w : World} {B n : Nat} {e : TypeId} {v : Value} {xs : List Value} (h : w.ownsRow B e 1 v n xs) (hn : 0 < n) : ∃ g cap, v = .slice (some ⟨g, 0, none⟩) n cap ∧ B ≤ g ∧ g < w.heap.size := by
  have hlt := h.lt
  rcases h.2 with ⟨_, h0⟩ | ⟨g, cap, cur, rfl, hB, _⟩
  · omega
  · exact ⟨g, cap, rfl, hB, (hlt g rfl).2⟩
theorem own_zero {w : World} {B : Nat} {e : TypeId} {v : Value} {xs : List Value} (h : w.ownsRow B e 1 v 0 xs) : ∃ A cap, v = .slice A 0 cap := by
  rcases h.2 with ⟨rfl, _⟩ | ⟨g, cap, cur, rfl, _⟩
  · exact ⟨_, _, rfl⟩
  · exact ⟨_, _, rfl⟩

theorem run_max2 (a b : Int) (w : World) : (Builtin.max_ #[3, 3] 3 #[.int .i64 a, .int .i64 b]).run Tryd.prog w = .ok (.int .i64 (max a b)) w := by
  have e : (if a < b then b else a) = max a b := by rw [Int.max_def]; split <;> split <;> omega
  simp [Builtin.max_, Builtin.max2, e]
set_option maxRecDepth 100000 in
set_option maxHeartbeats 1000000 in
theorem expr0 {w : World} (h : Mks C s w) : Calls Tryd.prog 68 #[.pointer (some ⟨C.M, 0, none⟩), .int .i64 0] w fun e w' => ExPost C s 1 w e w' := by
  have c0 := h.c0
  have hMl := h.blk.lt
  have HBase := Lib.hid h.base
  have H := Lib.hid h
  have H0 := Lib.hid (h.alloc (.cells zEx 91))
  have HB := Lib.hid (Blk.new w 91 zEx)
  clear h
  go_enter Tryd.func68, Tryd.ntmps68
  go_wp2_with fail
  refine (next_mk H0.out 6 (by omega)).mono ?_
  rintro e w1 ⟨r, rfl, hr0, hr1, hm1, hg1⟩
  have H1 := Lib.hid hm1
  have G1 := Lib.hid hg1
  have B1 := Lib.hid (H0.out.res hg1 HB.out (.inl rfl))
  have z1 := G1.out.size
  have c01 := hm1.c0
  have hr : r = 0 ∨ r = 1 ∨ r = 2 ∨ r = 3 ∨ r = 4 ∨ r = 5 := by omega
  clear hr1 hm1 hg1 c0 H0 HB hMl H
  rcases hr with rfl | rfl | rfl | rfl | rfl | rfl
  · clear hr0
    go_wp2_with fail
    refine (next_mk H1.out 12 (by omega)).mono ?_
    rintro e w2 ⟨q, rfl, q0, q1, hm2, hg2⟩
    have H2 := Lib.hid hm2
    have G2 := Lib.hid (G1.out.trans hg2)
    have B2 := Lib.hid (H1.out.res hg2 B1.out (.inl rfl))
    have z2 := G2.out.size
    have c02 := H2.out.c0
    clear H1 G1 B1 c01 z1 hg2 hm2
    have q2 : q ≤ 11 := by omega
    clear q1
    go_wp2_with fail
    refine (next_mk H2.out 8 (by omega)).mono ?_
    rintro e w3 ⟨z, rfl, z0, z1, hm3, hg3⟩
    have H3 := Lib.hid hm3
    have G3 := Lib.hid (G2.out.trans hg3)
    have B3 := Lib.hid (H2.out.res hg3 B2.out (.inl rfl))
    have z3 := G3.out.size
    have c03 := H3.out.c0
    clear H2 G2 B2 c02 z2 hg3 hm3
    have z2 : z ≤ 7 := by omega
    clear z1
    cases h7 : (z == 7)
    · clear z0 z2
      go_wp2_with fail
      refine (num_any _ _).mono ?_
      rintro e w4 ⟨rfl, hb4⟩
      have H4 := Lib.hid (H3.out.below hb4)
      have G4 := Lib.hid (G3.out.trans (Gen.below hb4 _ _ _))
      have B4 := Lib.hid (B3.out.below hb4 B3.out.lt)
      have z4 := G4.out.size
      have c04 := H4.out.c0
      clear H3 G3 B3 c03 z3 hb4
      obtain ⟨⟨r0, r1, r2, r3, r4⟩, f0, f1, f2, f3, f4⟩ := (B4.out).five
      go_wp2_with fail
      exact bodyPost_ret (v := .agg #[.int .i64 1, .int .i64 q, .string ⟨#[]⟩, .int .i64 0, .slice none 0 0]) (by simp [results, Tryd.results68, go_sem, r0, r1, r2, r3, r4]) rfl (ex_fin H4.out G4.out B4.out HBase.out (num_out _ _ (by omega) _ q (by omega)))
    · clear z0 z2
      go_wp2_with fail
      refine (word_mk H3.out).mono ?_
      rintro e w4 ⟨y, rfl, y0, y1, hm4, hg4⟩
      have H4 := Lib.hid hm4
      have G4 := Lib.hid (G3.out.trans hg4)
      have B4 := Lib.hid (H3.out.res hg4 B3.out (.inl rfl))
      have z4 := G4.out.size
      have c04 := H4.out.c0
      clear H3 G3 B3 c03 z3 hg4 hm4
      have y2 : -2147483647 ≤ max (-2147483647) y ∧ max (-2147483647) y ≤ 2147483647 := by omega
      have hmx := fun (W : World) => run_max2 (-2147483647) y W
      generalize max (-2147483647) y = y3 at *
      clear y0 y1
      go_wp2_with fail
      refine (num_any _ _).mono ?_
      rintro e w5 ⟨rfl, hb5⟩
      have H5 := Lib.hid (H4.out.below hb5)
      have G5 := Lib.hid (G4.out.trans (Gen.below hb5 _ _ _))
      have B5 := Lib.hid (B4.out.below hb5 B4.out.lt)
      have z5 := G5.out.size
      have c05 := H5.out.c0
      clear H4 G4 B4 c04 z4 hb5
      obtain ⟨⟨r0, r1, r2, r3, r4⟩, f0, f1, f2, f3, f4⟩ := (B5.out).five
      go_wp2_with fail
      exact bodyPost_ret (v := .agg #[.int .i64 1, .int .i64 y3, .string ⟨#[]⟩, .int .i64 0, .slice none 0 0]) (by simp [results, Tryd.results68, go_sem, r0, r1, r2, r3, r4]) rfl (ex_fin H5.out G5.out B5.out HBase.out (num_out _ _ (by omega) _ y3 (by omega)))
  · clear hr0
    obtain ⟨vb, vf, ve, vc, vB, vlt, vD, vM, vR⟩ := H1.out.vars.rd H1.out.nums.1 H1.out.nums.2.2.2.2.1
    have c1 := H1.out.c1
    rw [ve] at c1
    have VN := Lib.hid (name_mk H1.out vb vf C.vs.length C.vc H1.out.nums.1 (by have := H1.out.nums.2.1; omega) vlt vD vR)
    clear ve vc vB vlt vD vM vR
    go_wp2_with fail
    refine VN.out.mono ?_
    rintro e w2 ⟨x, rfl, hx, hm2, hg2⟩
    have HX := Lib.hid hx
    clear hx c1 VN
    have H2 := Lib.hid hm2
    have G2 := Lib.hid (G1.out.trans hg2)
    have B2 := Lib.hid (H1.out.res hg2 B1.out (.inl rfl))
    have z2 := G2.out.size
    have c02 := H2.out.c0
    clear H1 G1 B1 c01 z1 hg2 hm2
    go_wp2_with fail
    refine (nam_any _ _).mono ?_
    rintro e w3 ⟨rfl, hb3⟩
    have H3 := Lib.hid (H2.out.below hb3)
    have G3 := Lib.hid (G2.out.trans (Gen.below hb3 _ _ _))
    have B3 := Lib.hid (B2.out.below hb3 B2.out.lt)
    have z3 := G3.out.size
    have c03 := H3.out.c0
    clear H2 G2 B2 c02 z2 hb3
    obtain ⟨⟨r0, r1, r2, r3, r4⟩, f0, f1, f2, f3, f4⟩ := (B3.out).five
    go_wp2_with fail
    exact bodyPost_ret (v := .agg #[.int .i64 2, .int .i64 0, .string x, .int .i64 0, .slice none 0 0]) (by simp [results, Tryd.results68, go_sem, r0, r1, r2, r3, r4]) rfl (ex_fin H3.out G3.out B3.out HBase.out (nam_out _ _ (by omega) _ x HX.out))
  · clear hr0
    obtain ⟨vb, vf, ve, vc, vB, vlt, vD, vM, vR⟩ := H1.out.vars.rd H1.out.nums.1 H1.out.nums.2.2.2.2.1
    have c1 := H1.out.c1
    rw [ve] at c1
    have VN := Lib.hid (name_mk H1.out vb vf C.vs.length C.vc H1.out.nums.1 (by have := H1.out.nums.2.1; omega) vlt vD vR)
    clear ve vc vB vlt vD vM vR
    go_wp2_with fail
    refine VN.out.mono ?_
    rintro e w2 ⟨x, rfl, hx, hm2, hg2⟩
    have HX := Lib.hid hx
    clear hx c1 VN
    have H2 := Lib.hid hm2
    have G2 := Lib.hid (G1.out.trans hg2)
    have B2 := Lib.hid (H1.out.res hg2 B1.out (.inl rfl))
    have z2 := G2.out.size
    have c02 := H2.out.c0
    clear H1 G1 B1 c01 z1 hg2 hm2
    go_wp2_with fail
    refine (nam_any _ _).mono ?_
    rintro e w3 ⟨rfl, hb3⟩
    have H3 := Lib.hid (H2.out.below hb3)
    have G3 := Lib.hid (G2.out.trans (Gen.below hb3 _ _ _))
    have B3 := Lib.hid (B2.out.below hb3 B2.out.lt)
    have z3 := G3.out.size
    have c03 := H3.out.c0
    clear H2 G2 B2 c02 z2 hb3
    obtain ⟨⟨r0, r1, r2, r3, r4⟩, f0, f1, f2, f3, f4⟩ := (B3.out).five
    go_wp2_with fail
    exact bodyPost_ret (v := .agg #[.int .i64 2, .int .i64 0, .string x, .int .i64 0, .slice none 0 0]) (by simp [results, Tryd.results68, go_sem, r0, r1, r2, r3, r4]) rfl (ex_fin H3.out G3.out B3.out HBase.out (nam_out _ _ (by omega) _ x HX.out))
  · clear hr0
    go_wp2_with fail
    refine (next_mk H1.out 12 (by omega)).mono ?_
    rintro e w2 ⟨q, rfl, q0, q1, hm2, hg2⟩
    have H2 := Lib.hid hm2
    have G2 := Lib.hid (G1.out.trans hg2)
    have B2 := Lib.hid (H1.out.res hg2 B1.out (.inl rfl))
    have z2 := G2.out.size
    have c02 := H2.out.c0
    clear H1 G1 B1 c01 z1 hg2 hm2
    have q2 : q ≤ 11 := by omega
    clear q1
    go_wp2_with fail
    refine (next_mk H2.out 8 (by omega)).mono ?_
    rintro e w3 ⟨z, rfl, z0, z1, hm3, hg3⟩
    have H3 := Lib.hid hm3
    have G3 := Lib.hid (G2.out.trans hg3)
    have B3 := Lib.hid (H2.out.res hg3 B2.out (.inl rfl))
    have z3 := G3.out.size
    have c03 := H3.out.c0
    clear H2 G2 B2 c02 z2 hg3 hm3
    have z2 : z ≤ 7 := by omega
    clear z1
    cases h7 : (z == 7)
    · clear z0 z2
      go_wp2_with fail
      refine (num_any _ _).mono ?_
      rintro e w4 ⟨rfl, hb4⟩
      have H4 := Lib.hid (H3.out.below hb4)
      have G4 := Lib.hid (G3.out.trans (Gen.below hb4 _ _ _))
      have B4 := Lib.hid (B3.out.below hb4 B3.out.lt)
      have z4 := G4.out.size
      have c04 := H4.out.c0
      clear H3 G3 B3 c03 z3 hb4
      obtain ⟨⟨r0, r1, r2, r3, r4⟩, f0, f1, f2, f3, f4⟩ := (B4.out).five
      go_wp2_with fail
      exact bodyPost_ret (v := .agg #[.int .i64 1, .int .i64 q, .string ⟨#[]⟩, .int .i64 0, .slice none 0 0]) (by simp [results, Tryd.results68, go_sem, r0, r1, r2, r3, r4]) rfl (ex_fin H4.out G4.out B4.out HBase.out (num_out _ _ (by omega) _ q (by omega)))
    · clear z0 z2
      go_wp2_with fail
      refine (word_mk H3.out).mono ?_
      rintro e w4 ⟨y, rfl, y0, y1, hm4, hg4⟩
      have H4 := Lib.hid hm4
      have G4 := Lib.hid (G3.out.trans hg4)
      have B4 := Lib.hid (H3.out.res hg4 B3.out (.inl rfl))
      have z4 := G4.out.size
      have c04 := H4.out.c0
      clear H3 G3 B3 c03 z3 hg4 hm4
      have y2 : -2147483647 ≤ max (-2147483647) y ∧ max (-2147483647) y ≤ 2147483647 := by omega
      have hmx := fun (W : World) => run_max2 (-2147483647) y W
      generalize max (-2147483647) y = y3 at *
      clear y0 y1
      go_wp2_with fail
      refine (num_any _ _).mono ?_
      rintro e w5 ⟨rfl, hb5⟩
      have H5 := Lib.hid (H4.out.below hb5)
      have G5 := Lib.hid (G4.out.trans (Gen.below hb5 _ _ _))
      have B5 := Lib.hid (B4.out.below hb5 B4.out.lt)
      have z5 := G5.out.size
      have c05 := H5.out.c0
      clear H4 G4 B4 c04 z4 hb5
      obtain ⟨⟨r0, r1, r2, r3, r4⟩, f0, f1, f2, f3, f4⟩ := (B5.out).five
      go_wp2_with fail
      exact bodyPost_ret (v := .agg #[.int .i64 1, .int .i64 y3, .string ⟨#[]⟩, .int .i64 0, .slice none 0 0]) (by simp [results, Tryd.results68, go_sem, r0, r1, r2, r3, r4]) rfl (ex_fin H5.out G5.out B5.out HBase.out (num_out _ _ (by omega) _ y3 (by omega)))
  · clear hr0
    obtain ⟨vb, vf, ve, vc, vB, vlt, vD, vM, vR⟩ := H1.out.vars.rd H1.out.nums.1 H1.out.nums.2.2.2.2.1
    have c1 := H1.out.c1
    rw [ve] at c1
    have VN := Lib.hid (name_mk H1.out vb vf C.vs.length C.vc H1.out.nums.1 (by have := H1.out.nums.2.1; omega) vlt vD vR)
    clear ve vc vB vlt vD vM vR
    go_wp2_with fail
    refine VN.out.mono ?_
    rintro e w2 ⟨x, rfl, hx, hm2, hg2⟩
    have HX := Lib.hid hx
    clear hx c1 VN
    have H2 := Lib.hid hm2
    have G2 := Lib.hid (G1.out.trans hg2)
    have B2 := Lib.hid (H1.out.res hg2 B1.out (.inl rfl))
    have z2 := G2.out.size
    have c02 := H2.out.c0
    clear H1 G1 B1 c01 z1 hg2 hm2
    go_wp2_with fail
    refine (nam_any _ _).mono ?_
    rintro e w3 ⟨rfl, hb3⟩
    have H3 := Lib.hid (H2.out.below hb3)
    have G3 := Lib.hid (G2.out.trans (Gen.below hb3 _ _ _))
    have B3 := Lib.hid (B2.out.below hb3 B2.out.lt)
    have z3 := G3.out.size
    have c03 := H3.out.c0
    clear H2 G2 B2 c02 z2 hb3
    obtain ⟨⟨r0, r1, r2, r3, r4⟩, f0, f1, f2, f3, f4⟩ := (B3.out).five
    go_wp2_with fail
    exact bodyPost_ret (v := .agg #[.int .i64 2, .int .i64 0, .string x, .int .i64 0, .slice none 0 0]) (by simp [results, Tryd.results68, go_sem, r0, r1, r2, r3, r4]) rfl (ex_fin H3.out G3.out B3.out HBase.out (nam_out _ _ (by omega) _ x HX.out))
  · clear hr0
    obtain ⟨vb, vf, ve, vc, vB, vlt, vD, vM, vR⟩ := H1.out.vars.rd H1.out.nums.1 H1.out.nums.2.2.2.2.1
    have c1 := H1.out.c1
    rw [ve] at c1
    have VN := Lib.hid (name_mk H1.out vb vf C.vs.length C.vc H1.out.nums.1 (by have := H1.out.nums.2.1; omega) vlt vD vR)
    clear ve vc vB vlt vD vM vR
    go_wp2_with fail
    refine VN.out.mono ?_
    rintro e w2 ⟨x, rfl, hx, hm2, hg2⟩
    have HX := Lib.hid hx
    clear hx c1 VN
    have H2 := Lib.hid hm2
    have G2 := Lib.hid (G1.out.trans hg2)
    have B2 := Lib.hid (H1.out.res hg2 B1.out (.inl rfl))
    have z2 := G2.out.size
    have c02 := H2.out.c0
    clear H1 G1 B1 c01 z1 hg2 hm2
    go_wp2_with fail
    refine (nam_any _ _).mono ?_
    rintro e w3 ⟨rfl, hb3⟩
    have H3 := Lib.hid (H2.out.below hb3)
    have G3 := Lib.hid (G2.out.trans (Gen.below hb3 _ _ _))
    have B3 := Lib.hid (B2.out.below hb3 B2.out.lt)
    have z3 := G3.out.size
    have c03 := H3.out.c0
    clear H2 G2 B2 c02 z2 hb3
    obtain ⟨⟨r0, r1, r2, r3, r4⟩, f0, f1, f2, f3, f4⟩ := (B3.out).five
    go_wp2_with fail
    exact bodyPost_ret (v := .agg #[.int .i64 2, .int .i64 0, .string x, .int .i64 0, .slice none 0 0]) (by simp [results, Tryd.results68, go_sem, r0, r1, r2, r3, r4]) rfl (ex_fin H3.out G3.out B3.out HBase.out (nam_out _ _ (by omega) _ x HX.out))
set_option maxRecDepth 100000 in
set_option maxHeartbeats 1000000 in
theorem expr1 {w : World} (h : Mks C s w) : Calls Tryd.prog 68 #[.pointer (some ⟨C.M, 0, none⟩), .int .i64 1] w fun e w' => ExPost C s 2 w e w' := by
  have c0 := h.c0
  have hMl := h.blk.lt
  have HBase := Lib.hid h.base
  have H := Lib.hid h
  have H0 := Lib.hid (h.alloc (.cells zEx 91))
  have HB := Lib.hid (Blk.new w 91 zEx)
  clear h
  go_enter Tryd.func68, Tryd.ntmps68
  go_wp2_with fail
  refine (next_mk H0.out 6 (by omega)).mono ?_
  rintro e w1 ⟨r, rfl, hr0, hr1, hm1, hg1⟩
  have H1 := Lib.hid hm1
  have G1 := Lib.hid hg1
  have B1 := Lib.hid (H0.out.res hg1 HB.out (.inl rfl))
  have z1 := G1.out.size
  have c01 := hm1.c0
  have hr : r = 0 ∨ r = 1 ∨ r = 2 ∨ r = 3 ∨ r = 4 ∨ r = 5 := by omega
  clear hr1 hm1 hg1 c0 H0 HB hMl H
  rcases hr with rfl | rfl | rfl | rfl | rfl | rfl
  · clear hr0
    go_wp2_with fail
    refine (next_mk H1.out 12 (by omega)).mono ?_
    rintro e w2 ⟨q, rfl, q0, q1, hm2, hg2⟩
    have H2 := Lib.hid hm2
    have G2 := Lib.hid (G1.out.trans hg2)
    have B2 := Lib.hid (H1.out.res hg2 B1.out (.inl rfl))
    have z2 := G2.out.size
    have c02 := H2.out.c0
    clear H1 G1 B1 c01 z1 hg2 hm2
    have q2 : q ≤ 11 := by omega
    clear q1
    go_wp2_with fail
    refine (next_mk H2.out 8 (by omega)).mono ?_
    rintro e w3 ⟨z, rfl, z0, z1, hm3, hg3⟩
    have H3 := Lib.hid hm3
    have G3 := Lib.hid (G2.out.trans hg3)
    have B3 := Lib.hid (H2.out.res hg3 B2.out (.inl rfl))
    have z3 := G3.out.size
    have c03 := H3.out.c0
    clear H2 G2 B2 c02 z2 hg3 hm3
    have z2 : z ≤ 7 := by omega
    clear z1
    cases h7 : (z == 7)
    · clear z0 z2
      go_wp2_with fail
      refine (num_any _ _).mono ?_
      rintro e w4 ⟨rfl, hb4⟩
      have H4 := Lib.hid (H3.out.below hb4)
      have G4 := Lib.hid (G3.out.trans (Gen.below hb4 _ _ _))
      have B4 := Lib.hid (B3.out.below hb4 B3.out.lt)
      have z4 := G4.out.size
      have c04 := H4.out.c0
      clear H3 G3 B3 c03 z3 hb4
      obtain ⟨⟨r0, r1, r2, r3, r4⟩, f0, f1, f2, f3, f4⟩ := (B4.out).five
      go_wp2_with fail
      exact bodyPost_ret (v := .agg #[.int .i64 1, .int .i64 q, .string ⟨#[]⟩, .int .i64 0, .slice none 0 0]) (by simp [results, Tryd.results68, go_sem, r0, r1, r2, r3, r4]) rfl (ex_fin H4.out G4.out B4.out HBase.out (num_out _ _ (by omega) _ q (by omega)))
    · clear z0 z2
      go_wp2_with fail
      refine (word_mk H3.out).mono ?_
      rintro e w4 ⟨y, rfl, y0, y1, hm4, hg4⟩
      have H4 := Lib.hid hm4
      have G4 := Lib.hid (G3.out.trans hg4)
      have B4 := Lib.hid (H3.out.res hg4 B3.out (.inl rfl))
      have z4 := G4.out.size
      have c04 := H4.out.c0
      clear H3 G3 B3 c03 z3 hg4 hm4
      have y2 : -2147483647 ≤ max (-2147483647) y ∧ max (-2147483647) y ≤ 2147483647 := by omega
      have hmx := fun (W : World) => run_max2 (-2147483647) y W
      generalize max (-2147483647) y = y3 at *
      clear y0 y1
      go_wp2_with fail
      refine (num_any _ _).mono ?_
      rintro e w5 ⟨rfl, hb5⟩
      have H5 := Lib.hid (H4.out.below hb5)
      have G5 := Lib.hid (G4.out.trans (Gen.below hb5 _ _ _))
      have B5 := Lib.hid (B4.out.below hb5 B4.out.lt)
      have z5 := G5.out.size
      have c05 := H5.out.c0
      clear H4 G4 B4 c04 z4 hb5
      obtain ⟨⟨r0, r1, r2, r3, r4⟩, f0, f1, f2, f3, f4⟩ := (B5.out).five
      go_wp2_with fail
      exact bodyPost_ret (v := .agg #[.int .i64 1, .int .i64 y3, .string ⟨#[]⟩, .int .i64 0, .slice none 0 0]) (by simp [results, Tryd.results68, go_sem, r0, r1, r2, r3, r4]) rfl (ex_fin H5.out G5.out B5.out HBase.out (num_out _ _ (by omega) _ y3 (by omega)))
  · clear hr0
    obtain ⟨vb, vf, ve, vc, vB, vlt, vD, vM, vR⟩ := H1.out.vars.rd H1.out.nums.1 H1.out.nums.2.2.2.2.1
    have c1 := H1.out.c1
    rw [ve] at c1
    have VN := Lib.hid (name_mk H1.out vb vf C.vs.length C.vc H1.out.nums.1 (by have := H1.out.nums.2.1; omega) vlt vD vR)
    clear ve vc vB vlt vD vM vR
    go_wp2_with fail
    refine VN.out.mono ?_
    rintro e w2 ⟨x, rfl, hx, hm2, hg2⟩
    have HX := Lib.hid hx
    clear hx c1 VN
    have H2 := Lib.hid hm2
    have G2 := Lib.hid (G1.out.trans hg2)
    have B2 := Lib.hid (H1.out.res hg2 B1.out (.inl rfl))
    have z2 := G2.out.size
    have c02 := H2.out.c0
    clear H1 G1 B1 c01 z1 hg2 hm2
    go_wp2_with fail
    refine (nam_any _ _).mono ?_
    rintro e w3 ⟨rfl, hb3⟩
    have H3 := Lib.hid (H2.out.below hb3)
    have G3 := Lib.hid (G2.out.trans (Gen.below hb3 _ _ _))
    have B3 := Lib.hid (B2.out.below hb3 B2.out.lt)
    have z3 := G3.out.size
    have c03 := H3.out.c0
    clear H2 G2 B2 c02 z2 hb3
    obtain ⟨⟨r0, r1, r2, r3, r4⟩, f0, f1, f2, f3, f4⟩ := (B3.out).five
    go_wp2_with fail
    exact bodyPost_ret (v := .agg #[.int .i64 2, .int .i64 0, .string x, .int .i64 0, .slice none 0 0]) (by simp [results, Tryd.results68, go_sem, r0, r1, r2, r3, r4]) rfl (ex_fin H3.out G3.out B3.out HBase.out (nam_out _ _ (by omega) _ x HX.out))
  · clear hr0
    obtain ⟨vb, vf, ve, vc, vB, vlt, vD, vM, vR⟩ := H1.out.vars.rd H1.out.nums.1 H1.out.nums.2.2.2.2.1
    have c1 := H1.out.c1
    rw [ve] at c1
    have VN := Lib.hid (name_mk H1.out vb vf C.vs.length C.vc H1.out.nums.1 (by have := H1.out.nums.2.1; omega) vlt vD vR)
    clear ve vc vB vlt vD vM vR
    go_wp2_with fail
    refine VN.out.mono ?_
    rintro e w2 ⟨x, rfl, hx, hm2, hg2⟩
    have HX := Lib.hid hx
    clear hx c1 VN
    have H2 := Lib.hid hm2
    have G2 := Lib.hid (G1.out.trans hg2)
    have B2 := Lib.hid (H1.out.res hg2 B1.out (.inl rfl))
    have z2 := G2.out.size
    have c02 := H2.out.c0
    clear H1 G1 B1 c01 z1 hg2 hm2
    go_wp2_with fail
    refine (nam_any _ _).mono ?_
    rintro e w3 ⟨rfl, hb3⟩
    have H3 := Lib.hid (H2.out.below hb3)
    have G3 := Lib.hid (G2.out.trans (Gen.below hb3 _ _ _))
    have B3 := Lib.hid (B2.out.below hb3 B2.out.lt)
    have z3 := G3.out.size
    have c03 := H3.out.c0
    clear H2 G2 B2 c02 z2 hb3
    obtain ⟨⟨r0, r1, r2, r3, r4⟩, f0, f1, f2, f3, f4⟩ := (B3.out).five
    go_wp2_with fail
    exact bodyPost_ret (v := .agg #[.int .i64 2, .int .i64 0, .string x, .int .i64 0, .slice none 0 0]) (by simp [results, Tryd.results68, go_sem, r0, r1, r2, r3, r4]) rfl (ex_fin H3.out G3.out B3.out HBase.out (nam_out _ _ (by omega) _ x HX.out))
  · clear hr0
    go_wp2_with fail
    refine (usable_mk H1.out).mono ?_
    rintro e w2 ⟨l, v, rfl, ho, hl, hN, hb2⟩
    have hDl := Nat.lt_of_lt_of_le H1.out.nums.2.2.2.2.2.2.2.1 H1.out.base
    have H2 := Lib.hid (H1.out.below hb2)
    have G2 := Lib.hid (G1.out.trans (Gen.below hb2 _ _ _))
    have B2 := Lib.hid (B1.out.below hb2 B1.out.lt)
    have z2 := G2.out.size
    have c02 := H2.out.c0
    clear H1 G1 B1 c01 z1 hb2
    rcases Nat.eq_zero_or_pos l.length with h0 | h0
    · rw [h0] at ho
      obtain ⟨g, cap, rfl⟩ := own_zero ho
      clear ho h0 hl hN hDl
      obtain ⟨vb, vf, ve, vc, vB, vlt, vD, vM, vR⟩ := H2.out.vars.rd H2.out.nums.1 H2.out.nums.2.2.2.2.1
      have c1 := H2.out.c1
      rw [ve] at c1
      have VN := Lib.hid (name_mk H2.out vb vf C.vs.length C.vc H2.out.nums.1 (by have := H2.out.nums.2.1; omega) vlt vD vR)
      clear ve vc vB vlt vD vM vR
      go_wp2_with fail
      refine VN.out.mono ?_
      rintro e w3 ⟨x, rfl, hx, hm3, hg3⟩
      have HX := Lib.hid hx
      clear hx c1 VN
      have H3 := Lib.hid hm3
      have G3 := Lib.hid (G2.out.trans hg3)
      have B3 := Lib.hid (H2.out.res hg3 B2.out (.inl rfl))
      have z3 := G3.out.size
      have c03 := H3.out.c0
      clear H2 G2 B2 c02 z2 hg3 hm3
      go_wp2_with fail
      refine (nam_any _ _).mono ?_
      rintro e w4 ⟨rfl, hb4⟩
      have H4 := Lib.hid (H3.out.below hb4)
      have G4 := Lib.hid (G3.out.trans (Gen.below hb4 _ _ _))
      have B4 := Lib.hid (B3.out.below hb4 B3.out.lt)
      have z4 := G4.out.size
      have c04 := H4.out.c0
      clear H3 G3 B3 c03 z3 hb4
      obtain ⟨⟨r0, r1, r2, r3, r4⟩, f0, f1, f2, f3, f4⟩ := (B4.out).five
      go_wp2_with fail
      exact bodyPost_ret (v := .agg #[.int .i64 2, .int .i64 0, .string x, .int .i64 0, .slice none 0 0]) (by simp [results, Tryd.results68, go_sem, r0, r1, r2, r3, r4]) rfl (ex_fin H4.out G4.out B4.out HBase.out (nam_out _ _ (by omega) _ x HX.out))
    · obtain ⟨g, cap, rfl, hgB, hgl⟩ := own_form ho h0
      have VN := Lib.hid (name_mk H2.out g 0 l.length cap h0 (by omega) hgl (by omega) (own_rd ho rfl hN))
      have hl0 : (0 : Int) < l.length := by omega
      clear ho hN hgB hgl hDl
      go_wp2_with fail
      refine VN.out.mono ?_
      rintro e w3 ⟨x, rfl, hx, hm3, hg3⟩
      have HX := Lib.hid hx
      clear hx VN
      have H3 := Lib.hid hm3
      have G3 := Lib.hid (G2.out.trans hg3)
      have B3 := Lib.hid (H2.out.res hg3 B2.out (.inl rfl))
      have z3 := G3.out.size
      have c03 := H3.out.c0
      clear H2 G2 B2 c02 z2 hg3 hm3
      go_wp2_with fail
      refine (expr0 H3.out).mono ?_
      rintro e w4 ⟨kp, np, xp, op, ap, Ap, lp, rfl, hep, hm4, hg4⟩
      have Ep := Lib.hid (show ExOut (w.heap.size + 1) _ w4 kp np xp op ap Ap lp from ⟨hep.1, hep.2.1, hep.2.2.1, hep.2.2.2.1, hep.2.2.2.2.keep (Nat.le_refl _) (fun b hb _ => ⟨⟨by have := hb.1; simp at z3; omega, hb.2⟩, fun _ => rfl⟩)⟩)
      clear hep
      have H4 := Lib.hid hm4
      have G4 := Lib.hid (G3.out.trans hg4)
      have B4 := Lib.hid (H3.out.res hg4 B3.out (.inl rfl))
      have z4 := G4.out.size
      have c04 := H4.out.c0
      clear H3 G3 B3 c03 z3 hg4 hm4
      have B4x := B4.out.alloc (.cells #[.int .i64 kp, .int .i64 np, .string xp, .int .i64 op, .slice Ap ap.len lp] 91)
      obtain ⟨⟨r0, r1, r2, r3, r4⟩, f0, f1, f2, f3, f4⟩ := (B4x).five
      have H4x := Lib.hid (H4.out.alloc (.cells #[.int .i64 kp, .int .i64 np, .string xp, .int .i64 op, .slice Ap ap.len lp] 91))
      have G4x := Lib.hid (G4.out.alloc (.cells #[.int .i64 kp, .int .i64 np, .string xp, .int .i64 op, .slice Ap ap.len lp] 91))
      have EX := Lib.hid (idx_out HX.out Ep.out (by simpa using z4))
      have B4y := Lib.hid B4x
      clear B4x
      go_wp2_with fail
      exact bodyPost_ret (v := .agg #[.int .i64 3, .int .i64 0, .string x, .int .i64 0, .slice (some ⟨w4.heap.size, 0, none⟩) 1 1]) (by simp [results, Tryd.results68, go_sem, r0, r1, r2, r3, r4]) rfl (ex_fin H4x.out G4x.out B4y.out HBase.out EX.out)
  · clear hr0
    go_wp2_with fail
    refine (gop_mk H1.out).mono ?_
    rintro e w2 ⟨b, rfl, b0, b1, hm2, hg2⟩
    have H2 := Lib.hid hm2
    have G2 := Lib.hid (G1.out.trans hg2)
    have B2 := Lib.hid (H1.out.res hg2 B1.out (.inl rfl))
    have z2 := G2.out.size
    have c02 := H2.out.c0
    clear H1 G1 B1 c01 z1 hg2 hm2
    go_wp2_with fail
    refine (expr0 H2.out).mono ?_
    rintro e w3 ⟨kp, np, xp, op, ap, Ap, lp, rfl, hep, hm3, hg3⟩
    have Ep := Lib.hid (show ExOut (w.heap.size + 1) _ w3 kp np xp op ap Ap lp from ⟨hep.1, hep.2.1, hep.2.2.1, hep.2.2.2.1, hep.2.2.2.2.keep (Nat.le_refl _) (fun b hb _ => ⟨⟨by have := hb.1; simp at z2; omega, hb.2⟩, fun _ => rfl⟩)⟩)
    clear hep
    have H3 := Lib.hid hm3
    have G3 := Lib.hid (G2.out.trans hg3)
    have B3 := Lib.hid (H2.out.res hg3 B2.out (.inl rfl))
    have z3 := G3.out.size
    have c03 := H3.out.c0
    clear H2 G2 B2 c02 z2 hg3 hm3
    go_wp2_with fail
    refine (expr0 H3.out).mono ?_
    rintro e w4 ⟨kq, nq, xq, oq, aq, Aq, lq, rfl, heq, hm4, hg4⟩
    have Eq := Lib.hid (show ExOut (w.heap.size + 1) _ w4 kq nq xq oq aq Aq lq from ⟨heq.1, heq.2.1, heq.2.2.1, heq.2.2.2.1, heq.2.2.2.2.keep (Nat.le_refl _) (fun b hb _ => ⟨⟨by have := hb.1; simp at z3; omega, hb.2⟩, fun _ => rfl⟩)⟩)
    clear heq
    have H4 := Lib.hid hm4
    have G4 := Lib.hid (G3.out.trans hg4)
    have B4 := Lib.hid (H3.out.res hg4 B3.out (.inl rfl))
    have Epn := Lib.hid (ExOut.step H3.out hg4 (Nat.le_refl _) Ep.out)
    have z4 := G4.out.size
    have c04 := H4.out.c0
    clear H3 G3 B3 c03 z3 hg4 hm4
    clear Ep
    have Ep := Epn
    clear Epn
    go_wp2_with fail
    refine (bin_any b kp np op kq nq oq xp xq Ap Aq ap.len aq.len lp lq _).mono ?_
    rintro e w5 ⟨g, rfl, hgl, hbk, hb5⟩
    have BK := Lib.hid hbk
    clear hbk
    have hgz : w.heap.size + 1 ≤ g := by simp at z4; omega
    have H5 := Lib.hid (H4.out.below hb5)
    have G5 := Lib.hid (G4.out.trans (Gen.below hb5 _ _ _))
    have B5 := Lib.hid (B4.out.below hb5 B4.out.lt)
    have Epn := Lib.hid (ExOut.below hb5 (Nat.le_refl _) Ep.out)
    have Eqn := Lib.hid (ExOut.below hb5 (Nat.le_refl _) Eq.out)
    have z5 := G5.out.size
    have c05 := H5.out.c0
    clear H4 G4 B4 c04 z4 hb5
    clear Ep
    have Ep := Epn
    clear Epn
    clear Eq
    have Eq := Eqn
    clear Eqn
    have EX := Lib.hid (bin_out ⟨b0, b1⟩ Ep.out Eq.out BK.out hgz)
    clear Ep Eq BK
    obtain ⟨⟨r0, r1, r2, r3, r4⟩, f0, f1, f2, f3, f4⟩ := (B5.out).five
    go_wp2_with fail
    exact bodyPost_ret (v := .agg #[.int .i64 4, .int .i64 0, .string ⟨#[]⟩, .int .i64 b, .slice (some ⟨g, 0, none⟩) 2 2]) (by simp [results, Tryd.results68, go_sem, r0, r1, r2, r3, r4]) rfl (ex_fin H5.out G5.out B5.out HBase.out EX.out)
  · clear hr0
    go_wp2_with fail
    refine (gop_mk H1.out).mono ?_
    rintro e w2 ⟨b, rfl, b0, b1, hm2, hg2⟩
    have H2 := Lib.hid hm2
    have G2 := Lib.hid (G1.out.trans hg2)
    have B2 := Lib.hid (H1.out.res hg2 B1.out (.inl rfl))
    have z2 := G2.out.size
    have c02 := H2.out.c0
    clear H1 G1 B1 c01 z1 hg2 hm2
    go_wp2_with fail
    refine (expr0 H2.out).mono ?_
    rintro e w3 ⟨kp, np, xp, op, ap, Ap, lp, rfl, hep, hm3, hg3⟩
    have Ep := Lib.hid (show ExOut (w.heap.size + 1) _ w3 kp np xp op ap Ap lp from ⟨hep.1, hep.2.1, hep.2.2.1, hep.2.2.2.1, hep.2.2.2.2.keep (Nat.le_refl _) (fun b hb _ => ⟨⟨by have := hb.1; simp at z2; omega, hb.2⟩, fun _ => rfl⟩)⟩)
    clear hep
    have H3 := Lib.hid hm3
    have G3 := Lib.hid (G2.out.trans hg3)
    have B3 := Lib.hid (H2.out.res hg3 B2.out (.inl rfl))
    have z3 := G3.out.size
    have c03 := H3.out.c0
    clear H2 G2 B2 c02 z2 hg3 hm3
    go_wp2_with fail
    refine (expr0 H3.out).mono ?_
    rintro e w4 ⟨kq, nq, xq, oq, aq, Aq, lq, rfl, heq, hm4, hg4⟩
    have Eq := Lib.hid (show ExOut (w.heap.size + 1) _ w4 kq nq xq oq aq Aq lq from ⟨heq.1, heq.2.1, heq.2.2.1, heq.2.2.2.1, heq.2.2.2.2.keep (Nat.le_refl _) (fun b hb _ => ⟨⟨by have := hb.1; simp at z3; omega, hb.2⟩, fun _ => rfl⟩)⟩)
    clear heq
    have H4 := Lib.hid hm4
    have G4 := Lib.hid (G3.out.trans hg4)
    have B4 := Lib.hid (H3.out.res hg4 B3.out (.inl rfl))
    have Epn := Lib.hid (ExOut.step H3.out hg4 (Nat.le_refl _) Ep.out)
    have z4 := G4.out.size
    have c04 := H4.out.c0
    clear H3 G3 B3 c03 z3 hg4 hm4
    clear Ep
    have Ep := Epn
    clear Epn
    go_wp2_with fail
    refine (bin_any b kp np op kq nq oq xp xq Ap Aq ap.len aq.len lp lq _).mono ?_
    rintro e w5 ⟨g, rfl, hgl, hbk, hb5⟩
    have BK := Lib.hid hbk
    clear hbk
    have hgz : w.heap.size + 1 ≤ g := by simp at z4; omega
    have H5 := Lib.hid (H4.out.below hb5)
    have G5 := Lib.hid (G4.out.trans (Gen.below hb5 _ _ _))
    have B5 := Lib.hid (B4.out.below hb5 B4.out.lt)
    have Epn := Lib.hid (ExOut.below hb5 (Nat.le_refl _) Ep.out)
    have Eqn := Lib.hid (ExOut.below hb5 (Nat.le_refl _) Eq.out)
    have z5 := G5.out.size
    have c05 := H5.out.c0
    clear H4 G4 B4 c04 z4 hb5
    clear Ep
    have Ep := Epn
    clear Epn
    clear Eq
    have Eq := Eqn
    clear Eqn
    have EX := Lib.hid (bin_out ⟨b0, b1⟩ Ep.out Eq.out BK.out hgz)
    clear Ep Eq BK
    obtain ⟨⟨r0, r1, r2, r3, r4⟩, f0, f1, f2, f3, f4⟩ := (B5.out).five
    go_wp2_with fail
    exact bodyPost_ret (v := .agg #[.int .i64 4, .int .i64 0, .string ⟨#[]⟩, .int .i64 b, .slice (some ⟨g, 0, none⟩) 2 2]) (by simp [results, Tryd.results68, go_sem, r0, r1, r2, r3, r4]) rfl (ex_fin H5.out G5.out B5.out HBase.out EX.out)
set_option maxRecDepth 100000 in
set_option maxHeartbeats 1000000 in
theorem expr2 {w : World} (h : Mks C s w) : Calls Tryd.prog 68 #[.pointer (some ⟨C.M, 0, none⟩), .int .i64 2] w fun e w' => ExPost C s 3 w e w' := by
  have c0 := h.c0
  have hMl := h.blk.lt
  have HBase := Lib.hid h.base
  have H := Lib.hid h
  have H0 := Lib.hid (h.alloc (.cells zEx 91))
  have HB := Lib.hid (Blk.new w 91 zEx)
  clear h
  go_enter Tryd.func68, Tryd.ntmps68
  go_wp2_with fail
  refine (next_mk H0.out 6 (by omega)).mono ?_
  rintro e w1 ⟨r, rfl, hr0, hr1, hm1, hg1⟩
  have H1 := Lib.hid hm1
  have G1 := Lib.hid hg1
  have B1 := Lib.hid (H0.out.res hg1 HB.out (.inl rfl))
  have z1 := G1.out.size
  have c01 := hm1.c0
  have hr : r = 0 ∨ r = 1 ∨ r = 2 ∨ r = 3 ∨ r = 4 ∨ r = 5 := by omega
  clear hr1 hm1 hg1 c0 H0 HB hMl H
  rcases hr with rfl | rfl | rfl | rfl | rfl | rfl
  · clear hr0
    go_wp2_with fail
    refine (next_mk H1.out 12 (by omega)).mono ?_
    rintro e w2 ⟨q, rfl, q0, q1, hm2, hg2⟩
    have H2 := Lib.hid hm2
    have G2 := Lib.hid (G1.out.trans hg2)
    have B2 := Lib.hid (H1.out.res hg2 B1.out (.inl rfl))
    have z2 := G2.out.size
    have c02 := H2.out.c0
    clear H1 G1 B1 c01 z1 hg2 hm2
    have q2 : q ≤ 11 := by omega
    clear q1
    go_wp2_with fail
    refine (next_mk H2.out 8 (by omega)).mono ?_
    rintro e w3 ⟨z, rfl, z0, z1, hm3, hg3⟩
    have H3 := Lib.hid hm3
    have G3 := Lib.hid (G2.out.trans hg3)
    have B3 := Lib.hid (H2.out.res hg3 B2.out (.inl rfl))
    have z3 := G3.out.size
    have c03 := H3.out.c0
    clear H2 G2 B2 c02 z2 hg3 hm3
    have z2 : z ≤ 7 := by omega
    clear z1
    cases h7 : (z == 7)
    · clear z0 z2
      go_wp2_with fail
      refine (num_any _ _).mono ?_
      rintro e w4 ⟨rfl, hb4⟩
      have H4 := Lib.hid (H3.out.below hb4)
      have G4 := Lib.hid (G3.out.trans (Gen.below hb4 _ _ _))
      have B4 := Lib.hid (B3.out.below hb4 B3.out.lt)
      have z4 := G4.out.size
      have c04 := H4.out.c0
      clear H3 G3 B3 c03 z3 hb4
      obtain ⟨⟨r0, r1, r2, r3, r4⟩, f0, f1, f2, f3, f4⟩ := (B4.out).five
      go_wp2_with fail
      exact bodyPost_ret (v := .agg #[.int .i64 1, .int .i64 q, .string ⟨#[]⟩, .int .i64 0, .slice none 0 0]) (by simp [results, Tryd.results68, go_sem, r0, r1, r2, r3, r4]) rfl (ex_fin H4.out G4.out B4.out HBase.out (num_out _ _ (by omega) _ q (by omega)))
    · clear z0 z2
      go_wp2_with fail
      refine (word_mk H3.out).mono ?_
      rintro e w4 ⟨y, rfl, y0, y1, hm4, hg4⟩
      have H4 := Lib.hid hm4
      have G4 := Lib.hid (G3.out.trans hg4)
      have B4 := Lib.hid (H3.out.res hg4 B3.out (.inl rfl))
      have z4 := G4.out.size
      have c04 := H4.out.c0
      clear H3 G3 B3 c03 z3 hg4 hm4
      have y2 : -2147483647 ≤ max (-2147483647) y ∧ max (-2147483647) y ≤ 2147483647 := by omega
      have hmx := fun (W : World) => run_max2 (-2147483647) y W
      generalize max (-2147483647) y = y3 at *
      clear y0 y1
      go_wp2_with fail
      refine (num_any _ _).mono ?_
      rintro e w5 ⟨rfl, hb5⟩
      have H5 := Lib.hid (H4.out.below hb5)
      have G5 := Lib.hid (G4.out.trans (Gen.below hb5 _ _ _))
      have B5 := Lib.hid (B4.out.below hb5 B4.out.lt)
      have z5 := G5.out.size
      have c05 := H5.out.c0
      clear H4 G4 B4 c04 z4 hb5
      obtain ⟨⟨r0, r1, r2, r3, r4⟩, f0, f1, f2, f3, f4⟩ := (B5.out).five
      go_wp2_with fail
      exact bodyPost_ret (v := .agg #[.int .i64 1, .int .i64 y3, .string ⟨#[]⟩, .int .i64 0, .slice none 0 0]) (by simp [results, Tryd.results68, go_sem, r0, r1, r2, r3, r4]) rfl (ex_fin H5.out G5.out B5.out HBase.out (num_out _ _ (by omega) _ y3 (by omega)))
  · clear hr0
    obtain ⟨vb, vf, ve, vc, vB, vlt, vD, vM, vR⟩ := H1.out.vars.rd H1.out.nums.1 H1.out.nums.2.2.2.2.1
    have c1 := H1.out.c1
    rw [ve] at c1
    have VN := Lib.hid (name_mk H1.out vb vf C.vs.length C.vc H1.out.nums.1 (by have := H1.out.nums.2.1; omega) vlt vD vR)
    clear ve vc vB vlt vD vM vR
    go_wp2_with fail
    refine VN.out.mono ?_
    rintro e w2 ⟨x, rfl, hx, hm2, hg2⟩
    have HX := Lib.hid hx
    clear hx c1 VN
    have H2 := Lib.hid hm2
    have G2 := Lib.hid (G1.out.trans hg2)
    have B2 := Lib.hid (H1.out.res hg2 B1.out (.inl rfl))
    have z2 := G2.out.size
    have c02 := H2.out.c0
    clear H1 G1 B1 c01 z1 hg2 hm2
    go_wp2_with fail
    refine (nam_any _ _).mono ?_
    rintro e w3 ⟨rfl, hb3⟩
    have H3 := Lib.hid (H2.out.below hb3)
    have G3 := Lib.hid (G2.out.trans (Gen.below hb3 _ _ _))
    have B3 := Lib.hid (B2.out.below hb3 B2.out.lt)
    have z3 := G3.out.size
    have c03 := H3.out.c0
    clear H2 G2 B2 c02 z2 hb3
    obtain ⟨⟨r0, r1, r2, r3, r4⟩, f0, f1, f2, f3, f4⟩ := (B3.out).five
    go_wp2_with fail
    exact bodyPost_ret (v := .agg #[.int .i64 2, .int .i64 0, .string x, .int .i64 0, .slice none 0 0]) (by simp [results, Tryd.results68, go_sem, r0, r1, r2, r3, r4]) rfl (ex_fin H3.out G3.out B3.out HBase.out (nam_out _ _ (by omega) _ x HX.out))
  · clear hr0
    obtain ⟨vb, vf, ve, vc, vB, vlt, vD, vM, vR⟩ := H1.out.vars.rd H1.out.nums.1 H1.out.nums.2.2.2.2.1
    have c1 := H1.out.c1
    rw [ve] at c1
    have VN := Lib.hid (name_mk H1.out vb vf C.vs.length C.vc H1.out.nums.1 (by have := H1.out.nums.2.1; omega) vlt vD vR)
    clear ve vc vB vlt vD vM vR
    go_wp2_with fail
    refine VN.out.mono ?_
    rintro e w2 ⟨x, rfl, hx, hm2, hg2⟩
    have HX := Lib.hid hx
    clear hx c1 VN
    have H2 := Lib.hid hm2
    have G2 := Lib.hid (G1.out.trans hg2)
    have B2 := Lib.hid (H1.out.res hg2 B1.out (.inl rfl))
    have z2 := G2.out.size
    have c02 := H2.out.c0
    clear H1 G1 B1 c01 z1 hg2 hm2
    go_wp2_with fail
    refine (nam_any _ _).mono ?_
    rintro e w3 ⟨rfl, hb3⟩
    have H3 := Lib.hid (H2.out.below hb3)
    have G3 := Lib.hid (G2.out.trans (Gen.below hb3 _ _ _))
    have B3 := Lib.hid (B2.out.below hb3 B2.out.lt)
    have z3 := G3.out.size
    have c03 := H3.out.c0
    clear H2 G2 B2 c02 z2 hb3
    obtain ⟨⟨r0, r1, r2, r3, r4⟩, f0, f1, f2, f3, f4⟩ := (B3.out).five
    go_wp2_with fail
    exact bodyPost_ret (v := .agg #[.int .i64 2, .int .i64 0, .string x, .int .i64 0, .slice none 0 0]) (by simp [results, Tryd.results68, go_sem, r0, r1, r2, r3, r4]) rfl (ex_fin H3.out G3.out B3.out HBase.out (nam_out _ _ (by omega) _ x HX.out))
  · clear hr0
    go_wp2_with fail
    refine (usable_mk H1.out).mono ?_
    rintro e w2 ⟨l, v, rfl, ho, hl, hN, hb2⟩
    have hDl := Nat.lt_of_lt_of_le H1.out.nums.2.2.2.2.2.2.2.1 H1.out.base
    have H2 := Lib.hid (H1.out.below hb2)
    have G2 := Lib.hid (G1.out.trans (Gen.below hb2 _ _ _))
    have B2 := Lib.hid (B1.out.below hb2 B1.out.lt)
    have z2 := G2.out.size
    have c02 := H2.out.c0
    clear H1 G1 B1 c01 z1 hb2
    rcases Nat.eq_zero_or_pos l.length with h0 | h0
    · rw [h0] at ho
      obtain ⟨g, cap, rfl⟩ := own_zero ho
      clear ho h0 hl hN hDl
      obtain ⟨vb, vf, ve, vc, vB, vlt, vD, vM, vR⟩ := H2.out.vars.rd H2.out.nums.1 H2.out.nums.2.2.2.2.1
      have c1 := H2.out.c1
      rw [ve] at c1
      have VN := Lib.hid (name_mk H2.out vb vf C.vs.length C.vc H2.out.nums.1 (by have := H2.out.nums.2.1; omega) vlt vD vR)
      clear ve vc vB vlt vD vM vR
      go_wp2_with fail
      refine VN.out.mono ?_
      rintro e w3 ⟨x, rfl, hx, hm3, hg3⟩
      have HX := Lib.hid hx
      clear hx c1 VN
      have H3 := Lib.hid hm3
      have G3 := Lib.hid (G2.out.trans hg3)
      have B3 := Lib.hid (H2.out.res hg3 B2.out (.inl rfl))
      have z3 := G3.out.size
      have c03 := H3.out.c0
      clear H2 G2 B2 c02 z2 hg3 hm3
      go_wp2_with fail
      refine (nam_any _ _).mono ?_
      rintro e w4 ⟨rfl, hb4⟩
      have H4 := Lib.hid (H3.out.below hb4)
      have G4 := Lib.hid (G3.out.trans (Gen.below hb4 _ _ _))
      have B4 := Lib.hid (B3.out.below hb4 B3.out.lt)
      have z4 := G4.out.size
      have c04 := H4.out.c0
      clear H3 G3 B3 c03 z3 hb4
      obtain ⟨⟨r0, r1, r2, r3, r4⟩, f0, f1, f2, f3, f4⟩ := (B4.out).five
      go_wp2_with fail
      exact bodyPost_ret (v := .agg #[.int .i64 2, .int .i64 0, .string x, .int .i64 0, .slice none 0 0]) (by simp [results, Tryd.results68, go_sem, r0, r1, r2, r3, r4]) rfl (ex_fin H4.out G4.out B4.out HBase.out (nam_out _ _ (by omega) _ x HX.out))
    · obtain ⟨g, cap, rfl, hgB, hgl⟩ := own_form ho h0
      have VN := Lib.hid (name_mk H2.out g 0 l.length cap h0 (by omega) hgl (by omega) (own_rd ho rfl hN))
      have hl0 : (0 : Int) < l.length := by omega
      clear ho hN hgB hgl hDl
      go_wp2_with fail
      refine VN.out.mono ?_
      rintro e w3 ⟨x, rfl, hx, hm3, hg3⟩
      have HX := Lib.hid hx
      clear hx VN
      have H3 := Lib.hid hm3
      have G3 := Lib.hid (G2.out.trans hg3)
      have B3 := Lib.hid (H2.out.res hg3 B2.out (.inl rfl))
      have z3 := G3.out.size
      have c03 := H3.out.c0
      clear H2 G2 B2 c02 z2 hg3 hm3
      go_wp2_with fail
      refine (expr1 H3.out).mono ?_
      rintro e w4 ⟨kp, np, xp, op, ap, Ap, lp, rfl, hep, hm4, hg4⟩
      have Ep := Lib.hid (show ExOut (w.heap.size + 1) _ w4 kp np xp op ap Ap lp from ⟨hep.1, hep.2.1, hep.2.2.1, hep.2.2.2.1, hep.2.2.2.2.keep (Nat.le_refl _) (fun b hb _ => ⟨⟨by have := hb.1; simp at z3; omega, hb.2⟩, fun _ => rfl⟩)⟩)
      clear hep
      have H4 := Lib.hid hm4
      have G4 := Lib.hid (G3.out.trans hg4)
      have B4 := Lib.hid (H3.out.res hg4 B3.out (.inl rfl))
      have z4 := G4.out.size
      have c04 := H4.out.c0
      clear H3 G3 B3 c03 z3 hg4 hm4
      have B4x := B4.out.alloc (.cells #[.int .i64 kp, .int .i64 np, .string xp, .int .i64 op, .slice Ap ap.len lp] 91)
      obtain ⟨⟨r0, r1, r2, r3, r4⟩, f0, f1, f2, f3, f4⟩ := (B4x).five
      have H4x := Lib.hid (H4.out.alloc (.cells #[.int .i64 kp, .int .i64 np, .string xp, .int .i64 op, .slice Ap ap.len lp] 91))
      have G4x := Lib.hid (G4.out.alloc (.cells #[.int .i64 kp, .int .i64 np, .string xp, .int .i64 op, .slice Ap ap.len lp] 91))
      have EX := Lib.hid (idx_out HX.out Ep.out (by simpa using z4))
      have B4y := Lib.hid B4x
      clear B4x
      go_wp2_with fail
      exact bodyPost_ret (v := .agg #[.int .i64 3, .int .i64 0, .string x, .int .i64 0, .slice (some ⟨w4.heap.size, 0, none⟩) 1 1]) (by simp [results, Tryd.results68, go_sem, r0, r1, r2, r3, r4]) rfl (ex_fin H4x.out G4x.out B4y.out HBase.out EX.out)
  · clear hr0
    go_wp2_with fail
    refine (gop_mk H1.out).mono ?_
    rintro e w2 ⟨b, rfl, b0, b1, hm2, hg2⟩
    have H2 := Lib.hid hm2
    have G2 := Lib.hid (G1.out.trans hg2)
    have B2 := Lib.hid (H1.out.res hg2 B1.out (.inl rfl))
    have z2 := G2.out.size
    have c02 := H2.out.c0
    clear H1 G1 B1 c01 z1 hg2 hm2
    go_wp2_with fail
    refine (expr1 H2.out).mono ?_
    rintro e w3 ⟨kp, np, xp, op, ap, Ap, lp, rfl, hep, hm3, hg3⟩
    have Ep := Lib.hid (show ExOut (w.heap.size + 1) _ w3 kp np xp op ap Ap lp from ⟨hep.1, hep.2.1, hep.2.2.1, hep.2.2.2.1, hep.2.2.2.2.keep (Nat.le_refl _) (fun b hb _ => ⟨⟨by have := hb.1; simp at z2; omega, hb.2⟩, fun _ => rfl⟩)⟩)
    clear hep
    have H3 := Lib.hid hm3
    have G3 := Lib.hid (G2.out.trans hg3)
    have B3 := Lib.hid (H2.out.res hg3 B2.out (.inl rfl))
    have z3 := G3.out.size
    have c03 := H3.out.c0
    clear H2 G2 B2 c02 z2 hg3 hm3
    go_wp2_with fail
    refine (expr1 H3.out).mono ?_
    rintro e w4 ⟨kq, nq, xq, oq, aq, Aq, lq, rfl, heq, hm4, hg4⟩
    have Eq := Lib.hid (show ExOut (w.heap.size + 1) _ w4 kq nq xq oq aq Aq lq from ⟨heq.1, heq.2.1, heq.2.2.1, heq.2.2.2.1, heq.2.2.2.2.keep (Nat.le_refl _) (fun b hb _ => ⟨⟨by have := hb.1; simp at z3; omega, hb.2⟩, fun _ => rfl⟩)⟩)
    clear heq
    have H4 := Lib.hid hm4
    have G4 := Lib.hid (G3.out.trans hg4)
    have B4 := Lib.hid (H3.out.res hg4 B3.out (.inl rfl))
    have Epn := Lib.hid (ExOut.step H3.out hg4 (Nat.le_refl _) Ep.out)
    have z4 := G4.out.size
    have c04 := H4.out.c0
    clear H3 G3 B3 c03 z3 hg4 hm4
    clear Ep
    have Ep := Epn
    clear Epn
    go_wp2_with fail
    refine (bin_any b kp np op kq nq oq xp xq Ap Aq ap.len aq.len lp lq _).mono ?_
    rintro e w5 ⟨g, rfl, hgl, hbk, hb5⟩
    have BK := Lib.hid hbk
    clear hbk
    have hgz : w.heap.size + 1 ≤ g := by simp at z4; omega
    have H5 := Lib.hid (H4.out.below hb5)
    have G5 := Lib.hid (G4.out.trans (Gen.below hb5 _ _ _))
    have B5 := Lib.hid (B4.out.below hb5 B4.out.lt)
    have Epn := Lib.hid (ExOut.below hb5 (Nat.le_refl _) Ep.out)
    have Eqn := Lib.hid (ExOut.below hb5 (Nat.le_refl _) Eq.out)
    have z5 := G5.out.size
    have c05 := H5.out.c0
    clear H4 G4 B4 c04 z4 hb5
    clear Ep
    have Ep := Epn
    clear Epn
    clear Eq
    have Eq := Eqn
    clear Eqn
    have EX := Lib.hid (bin_out ⟨b0, b1⟩ Ep.out Eq.out BK.out hgz)
    clear Ep Eq BK
    obtain ⟨⟨r0, r1, r2, r3, r4⟩, f0, f1, f2, f3, f4⟩ := (B5.out).five
    go_wp2_with fail
    exact bodyPost_ret (v := .agg #[.int .i64 4, .int .i64 0, .string ⟨#[]⟩, .int .i64 b, .slice (some ⟨g, 0, none⟩) 2 2]) (by simp [results, Tryd.results68, go_sem, r0, r1, r2, r3, r4]) rfl (ex_fin H5.out G5.out B5.out HBase.out EX.out)
  · clear hr0
    go_wp2_with fail
    refine (gop_mk H1.out).mono ?_
    rintro e w2 ⟨b, rfl, b0, b1, hm2, hg2⟩
    have H2 := Lib.hid hm2
    have G2 := Lib.hid (G1.out.trans hg2)
    have B2 := Lib.hid (H1.out.res hg2 B1.out (.inl rfl))
    have z2 := G2.out.size
    have c02 := H2.out.c0
    clear H1 G1 B1 c01 z1 hg2 hm2
    go_wp2_with fail
    refine (expr1 H2.out).mono ?_
    rintro e w3 ⟨kp, np, xp, op, ap, Ap, lp, rfl, hep, hm3, hg3⟩
    have Ep := Lib.hid (show ExOut (w.heap.size + 1) _ w3 kp np xp op ap Ap lp from ⟨hep.1, hep.2.1, hep.2.2.1, hep.2.2.2.1, hep.2.2.2.2.keep (Nat.le_refl _) (fun b hb _ => ⟨⟨by have := hb.1; simp at z2; omega, hb.2⟩, fun _ => rfl⟩)⟩)
    clear hep
    have H3 := Lib.hid hm3
    have G3 := Lib.hid (G2.out.trans hg3)
    have B3 := Lib.hid (H2.out.res hg3 B2.out (.inl rfl))
    have z3 := G3.out.size
    have c03 := H3.out.c0
    clear H2 G2 B2 c02 z2 hg3 hm3
    go_wp2_with fail
    refine (expr1 H3.out).mono ?_
    rintro e w4 ⟨kq, nq, xq, oq, aq, Aq, lq, rfl, heq, hm4, hg4⟩
    have Eq := Lib.hid (show ExOut (w.heap.size + 1) _ w4 kq nq xq oq aq Aq lq from ⟨heq.1, heq.2.1, heq.2.2.1, heq.2.2.2.1, heq.2.2.2.2.keep (Nat.le_refl _) (fun b hb _ => ⟨⟨by have := hb.1; simp at z3; omega, hb.2⟩, fun _ => rfl⟩)⟩)
    clear heq
    have H4 := Lib.hid hm4
    have G4 := Lib.hid (G3.out.trans hg4)
    have B4 := Lib.hid (H3.out.res hg4 B3.out (.inl rfl))
    have Epn := Lib.hid (ExOut.step H3.out hg4 (Nat.le_refl _) Ep.out)
    have z4 := G4.out.size
    have c04 := H4.out.c0
    clear H3 G3 B3 c03 z3 hg4 hm4
    clear Ep
    have Ep := Epn
    clear Epn
    go_wp2_with fail
    refine (bin_any b kp np op kq nq oq xp xq Ap Aq ap.len aq.len lp lq _).mono ?_
    rintro e w5 ⟨g, rfl, hgl, hbk, hb5⟩
    have BK := Lib.hid hbk
    clear hbk
    have hgz : w.heap.size + 1 ≤ g := by simp at z4; omega
    have H5 := Lib.hid (H4.out.below hb5)
    have G5 := Lib.hid (G4.out.trans (Gen.below hb5 _ _ _))
    have B5 := Lib.hid (B4.out.below hb5 B4.out.lt)
    have Epn := Lib.hid (ExOut.below hb5 (Nat.le_refl _) Ep.out)
    have Eqn := Lib.hid (ExOut.below hb5 (Nat.le_refl _) Eq.out)
    have z5 := G5.out.size
    have c05 := H5.out.c0
    clear H4 G4 B4 c04 z4 hb5
    clear Ep
    have Ep := Epn
    clear Epn
    clear Eq
    have Eq := Eqn
    clear Eqn
    have EX := Lib.hid (bin_out ⟨b0, b1⟩ Ep.out Eq.out BK.out hgz)
    clear Ep Eq BK
    obtain ⟨⟨r0, r1, r2, r3, r4⟩, f0, f1, f2, f3, f4⟩ := (B5.out).five
    go_wp2_with fail
    exact bodyPost_ret (v := .agg #[.int .i64 4, .int .i64 0, .string ⟨#[]⟩, .int .i64 b, .slice (some ⟨g, 0, none⟩) 2 2]) (by simp [results, Tryd.results68, go_sem, r0, r1, r2, r3, r4]) rfl (ex_fin H5.out G5.out B5.out HBase.out EX.out)
end
end Go.Proofs.YtbppfhlpielpcaaDoor
