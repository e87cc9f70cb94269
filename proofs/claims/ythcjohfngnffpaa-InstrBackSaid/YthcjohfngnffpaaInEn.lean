/- The specification's Encode. No condition. -/
import Derived.Test.YthcjohfngnffpaaInRd
import Derived.LoopTactic
import Derived.Deep.DeepCutAuto
import Derived.Deep.CutBlock
namespace Go.Proofs.Ythcjohfngnffpaa
open Go.RowKit
set_option linter.unusedVariables false
set_option linter.unusedSimpArgs false
attribute [local go_sem] y_undef
theorem getD_some' {α : Type} {l : List α} {i : Nat} (d : α) (hi : i < l.length) : l[i]? = some (l.getD i d) := by simp [List.getD, List.getElem?_eq_getElem hi]
theorem InsL.opened {w : World} {v : Value} {l : List In.I} (h : InsL w v l) : ∃ (A : Option Addr) (c : Nat), v = .slice A l.length c ∧ ∀ i, i < l.length → ∃ b off, A = some ⟨b, off, none⟩ ∧ b < w.heap.size ∧ w.cell? ⟨b, off + i * 6, none⟩ = some (.int .i64 (l.getD i In.i0).k) ∧ w.cell? ⟨b, off + i * 6 + 1, none⟩ = some (.int .i64 (l.getD i In.i0).a) ∧
    w.cell? ⟨b, off + i * 6 + 2, none⟩ = some (.int .i64 (l.getD i In.i0).b) ∧ w.cell? ⟨b, off + i * 6 + 3, none⟩ = some (.int .i64 (l.getD i In.i0).c) ∧ w.cell? ⟨b, off + i * 6 + 4, none⟩ = some (.int .i64 (l.getD i In.i0).o) ∧ w.cell? ⟨b, off + i * 6 + 5, none⟩ = some (.int .i64 (l.getD i In.i0).m) := by
  obtain ⟨A, c, e, hl, h0 | ⟨b, off, eA, hlt, hc⟩⟩ := h
  · exact ⟨A, c, e, fun i hi => absurd hi (by omega)⟩
  · refine ⟨A, c, e, fun i hi => ⟨b, off, eA, hlt, ?_⟩⟩
    have hx := getD_some' In.i0 hi
    have f : ∀ (j : Nat) (u : Value), (iCells (l.getD i In.i0))[j]? = some u → w.cell? ⟨b, off + i * 6 + j, none⟩ = some u := fun j u hj => by
      have := hc (i * 6 + j) u (flat_cell iCells 6 (fun _ => rfl) l i j _ u hx hj)
      rwa [← Nat.add_assoc] at this
    exact ⟨f 0 _ rfl, f 1 _ rfl, f 2 _ rfl, f 3 _ rfl, f 4 _ rfl, f 5 _ rfl⟩
namespace In
theorem err_take {l : List I} {k : Nat} (hk : k < l.length) (ha : ∀ j, j < k → chk (l.getD j i0) = 0) (hc : chk (l.getD k i0) ≠ 0) : err l = chk (l.getD k i0) :=
  err_first (getD_some' i0 hk) hc (fun j x hj hx => by
    have := ha j hj
    rw [List.getD_eq_getElem?_getD, hx] at this
    exact this)
theorem err_none {l : List I} (ha : ∀ j, j < l.length → chk (l.getD j i0) = 0) : err l = 0 := err_all fun i hi => by
  obtain ⟨j, hj, rfl⟩ := List.getElem_of_mem hi
  have := ha j hj
  rw [List.getD_eq_getElem?_getD, List.getElem?_eq_getElem hj] at this
  exact this
theorem take_flat {l : List I} {k : Nat} (hk : k < l.length) : (l.take (k + 1)).flatMap en = (l.take k).flatMap en ++ en (l.getD k i0) := by
  rw [List.take_add_one, getD_some' i0 hk]
  simp
end In
theorem lit_row8 (u : World) (b0 b1 b2 b3 b4 b5 b6 b7 : Value) (t : TypeId) (g : Nat) (hg : g = u.heap.size) : RowIn 1 (u.alloc (.cells #[b0, b1, b2, b3, b4, b5, b6, b7] t)) (.slice (some ⟨g, 0, none⟩) 8 8) 8 [b0, b1, b2, b3, b4, b5, b6, b7] := by
  subst hg
  refine ⟨_, 8, rfl, rfl, .inr ⟨_, 0, rfl, by simp, fun j x hj => ?_⟩⟩
  have hb := heap_alloc_new u (.cells #[b0, b1, b2, b3, b4, b5, b6, b7] t)
  rw [cell_of_row _ _ _ _ _ _ hb, Nat.zero_add]
  simpa using hj
/-- Encode's loop: what is there of the bytes. -/
structure EnS (w : World) (l : List In.I) (k : Nat) (y : Value) (u : World) : Prop where
  bel : Below w.heap.size w u
  row : u.ownsRow w.heap.size 5 1 y (8 * k) (((l.take k).flatMap In.en).map (Value.int .u8))
  ok : ∀ j, j < k → In.chk (l.getD j In.i0) = 0
theorem EnS.start {w : World} {l : List In.I} : EnS w l 0 (.slice none 0 0) w := ⟨Below.refl _ _, by simpa using World.ownsRow_nil _ _ _ _, fun j hj => absurd hj (Nat.not_lt_zero _)⟩
theorem EnS.below {w u u' : World} {l : List In.I} {k : Nat} {y : Value} (h : EnS w l k y u) (hb : Below u.heap.size u u') : EnS w l k y u' := ⟨blt h.bel hb, own_below h.row hb, h.ok⟩
theorem EnS.push {w u u' : World} {l : List In.I} {k : Nat} {y y' : Value} (h : EnS w l k y u) (hk : k < l.length) (hc : In.chk (l.getD k In.i0) = 0)
    (hown : u'.ownsRow w.heap.size 5 1 y' (8 * k + 8) (((l.take k).flatMap In.en).map (Value.int .u8) ++ (In.en (l.getD k In.i0)).map (Value.int .u8))) (hg : u.grownBy u' y.ownBlock) : EnS w l (k + 1) y' u' :=
  ⟨h.bel.grown hg h.bel.size (fun b hb => (h.row.lt b hb).1), by rw [In.take_flat hk, List.map_append]; exact hown, fun j hj => by
    rcases Nat.lt_or_ge j k with h1 | h1
    · exact h.ok j h1
    · rw [show j = k by omega]; exact hc⟩
/-- What Encode answers. -/
def EnPost (w : World) (l : List In.I) (e : Ending) (w' : World) : Prop := ∃ y, e = .returned (.tuple #[y, .int .i64 (In.eno l)]) ∧ w'.ownsRow w.heap.size 5 1 y (In.enb l).length ((In.enb l).map (Value.int .u8)) ∧ Below w.heap.size w w'
theorem EnPost.bad {w w' : World} {l : List In.I} (h : In.eno l ≠ 0) (hb : Below w.heap.size w w') : EnPost w l (.returned (.tuple #[.slice none 0 0, .int .i64 (In.eno l)])) w' :=
  ⟨_, rfl, by rw [In.enb, if_neg h]; exact World.ownsRow_nil _ _ _ _, hb⟩
theorem EnS.fin {w u : World} {l : List In.I} {y : Value} (h : EnS w l l.length y u) (hl : ¬ 1024 < l.length) : In.eno l = 0 ∧ EnPost w l (.returned (.tuple #[y, .int .i64 (In.eno l)])) u := by
  have he : In.eno l = 0 := by unfold In.eno; rw [if_neg hl]; exact In.err_none h.ok
  have hr := h.row
  rw [List.take_length] at hr
  exact ⟨he, _, rfl, by rw [In.enb, if_pos he, In.flat_len]; exact hr, h.bel⟩
theorem EnS.bad {w u : World} {l : List In.I} {k : Nat} {y : Value} (h : EnS w l k y u) (hl : ¬ 1024 < l.length) (hk : k < l.length) (hc : In.chk (l.getD k In.i0) ≠ 0) : In.eno l = In.chk (l.getD k In.i0) := by
  unfold In.eno; rw [if_neg hl]; exact In.err_take hk h.ok hc
set_option maxRecDepth 100000 in
set_option maxHeartbeats 40000000 in
theorem renc_any (l : List In.I) (v : Value) (w : World) (hv : InsL w v l) (hm : l.length ≤ maxLen) : Calls Try.prog 7 #[v] w (EnPost w l) := by
  obtain ⟨A, c, rfl, ho⟩ := hv.opened
  unfold maxLen at hm
  obtain ⟨n, hn⟩ : ∃ n, l.length = n := ⟨_, rfl⟩
  rw [hn] at hm ho ⊢
  have HN := Lib.hid hn
  clear hn
  have HO := Lib.hid ho
  clear ho hv
  by_cases h1 : 1024 < n
  · have h1' : (1024 : Int) < n := by omega
    have he : In.eno l = 4 := by unfold In.eno; rw [HN.out, if_pos h1]
    have HE := Lib.hid he
    clear he
    go_enter Try.func7, Try.ntmps7
    go_wp2
    refine bodyPost_ret (v := .tuple #[.slice none 0 0, .int .i64 (In.eno l)]) ?_ rfl (EnPost.bad (by rw [HE.out]; omega) (Below.refl _ _))
    simp [results, Try.results7, go_sem, HE.out]
  · have h1' : ¬ (1024 : Int) < n := by omega
    have HI : Hid (EnS w l 0 (.slice none 0 0) w) := Lib.hid EnS.start
    obtain ⟨iB, hi0, hz0, hz1, hz2⟩ := info_parts minfo_u8
    have HIB := Lib.hid (And.intro hi0 (And.intro hz0 (And.intro hz1 hz2)))
    clear hi0 hz0 hz1 hz2
    go_enter Try.func7, Try.ntmps7
    go_wp2_with fail
    go_loopw [4, 5, 6, 7] (fun y k _ _ wr => ∃ (j : Nat) (z : Value), j ≤ n ∧ k = .int .i64 (j : Nat) ∧ z = y ∧ Hid (EnS w l j z wr)) (fun _ k _ _ _ => n - (intOf k).toNat)
    case atStart => exact ⟨0, _, by omega, rfl, rfl, HI⟩
    case round =>
      obtain ⟨j, z, hj, rfl, rfl, HS⟩ := hrel
      clear HI
      by_cases hlt : (j : Int) < n
      · have hjn : j < n := by omega
        obtain ⟨b, off, rfl, hb0, x0, x1, x2, x3, x4, x5⟩ := HO.out j hjn
        have hbs := HS.out.bel
        obtain ⟨i, hi⟩ : ∃ i, l.getD j In.i0 = i := ⟨_, rfl⟩
        rw [hi] at x0 x1 x2 x3 x4 x5
        have y0 := (hbs.cell (p := ⟨b, off + j * 6, none⟩) hb0).trans x0
        have y1 := (hbs.cell (p := ⟨b, off + j * 6 + 1, none⟩) hb0).trans x1
        have y2 := (hbs.cell (p := ⟨b, off + j * 6 + 2, none⟩) hb0).trans x2
        have y3 := (hbs.cell (p := ⟨b, off + j * 6 + 3, none⟩) hb0).trans x3
        have y4 := (hbs.cell (p := ⟨b, off + j * 6 + 4, none⟩) hb0).trans x4
        have y5 := (hbs.cell (p := ⟨b, off + j * 6 + 5, none⟩) hb0).trans x5
        have hbs0 := hbs.size
        have HX := Lib.hid hi
        clear hi x0 x1 x2 x3 x4 x5 hbs
        obtain ⟨ik, ia, ib, ic, io, im⟩ := i
        simp only at y0 y1 y2 y3 y4 y5
        obtain ⟨q, hq⟩ : ∃ q, In.chk ⟨ik, ia, ib, ic, io, im⟩ = q := ⟨_, rfl⟩
        have HQ := Lib.hid hq
        have HK := Lib.hid (rchk_any ⟨ik, ia, ib, ic, io, im⟩ q hq)
        clear hq
        unfold iAgg at HK
        simp only at HK
        have HB := Lib.hid (And.intro (Bk.new wr 26 #[.int .i64 ik, .int .i64 ia, .int .i64 ib, .int .i64 ic, .int .i64 io, .int .i64 im]) (HS.out.below (bla (Below.refl _ _) (.cells #[.int .i64 ik, .int .i64 ia, .int .i64 ib, .int .i64 ic, .int .i64 io, .int .i64 im] 26))))
        by_cases h0 : q = 0
        · go_wp2_with (first | (go_at_call 19; refine (HK.out _).mono ?_; rintro e u ⟨rfl, hb⟩; have HC := Lib.hid (And.intro (HB.out.1.below hb) (HB.out.2.below hb)); clear hb; have c0 := HC.out.1.cell 0; have c1 := HC.out.1.cell 1; have c2 := HC.out.1.cell 2; have c3 := HC.out.1.cell 3; have c4 := HC.out.1.cell 4; have c5 := HC.out.1.cell 5; simp at c0 c1 c2 c3 c4 c5) | (at_builtin; refine wpList_append_row rfl _ _ 22 rfl w.heap.size 5 iB _ 1 1 Try.underlying22 HIB.out.1 HIB.out.2.1 HIB.out.2.2.1 HIB.out.2.2.2 rfl (by decide) _ _ _ rfl (own_below HC.out.2.row (bla (Below.refl _ _) _)) _ _ _ rfl (lit_row8 u _ _ _ _ _ _ _ _ _ _ rfl) ?qc3 ?qc4 ?qc5 ?qc6 ?_))
          case qc3 => intro x hx; simp only [List.mem_cons, List.not_mem_nil, or_false] at hx; rcases hx with rfl | rfl | rfl | rfl | rfl | rfl | rfl | rfl <;> rfl
          case qc4 => unfold maxLen; omega
          case qc5 => omega
          case qc6 => rw [size_alloc]; have := HC.out.2.bel.size; omega
          intro v2 w3 hown hg hv2
          have hV := In.V.of (HQ.out.trans h0)
          obtain ⟨-, -, a0, a1, b0, b1, -, -, -, -, -, -⟩ := hV
          simp only at a0 a1 b0 b1
          have hw : wrap64 (wrap64 (16 * ia) + ib) = 16 * ia + ib := by rw [wrap64_same (n := 16 * ia) ⟨by omega, by omega⟩, wrap64_same ⟨by omega, by omega⟩]
          rw [hw] at hown
          have HN2 := Lib.hid ((HC.out.2.below (bla (Below.refl _ _) _)).push (by rw [HN.out]; exact hjn) (by rw [HX.out]; exact HQ.out.trans h0) (by rw [HX.out]; exact hown) hg)
          clear hown hg hv2 hw a0 a1 b0 b1 HC HB c0 c1 c2 c3 c4 c5 y0 y1 y2 y3 y4 y5
          go_wp2
          exact ⟨⟨j + 1, _, by omega, by first | rfl | go_num, rfl, HN2⟩, by simp [intOf]; omega⟩
        · have HE := Lib.hid (show In.eno l = q from by rw [HS.out.bad (by rw [HN.out]; exact h1) (by rw [HN.out]; exact hjn) (by rw [HX.out, HQ.out]; exact h0), HX.out, HQ.out])
          go_wp2_with (go_at_call 19; refine (HK.out _).mono ?_; rintro e u ⟨rfl, hb⟩; have HC := Lib.hid (HB.out.2.below hb); clear hb)
          refine bodyPost_ret (v := .tuple #[.slice none 0 0, .int .i64 (In.eno l)]) ?_ rfl (EnPost.bad (by rw [HE.out]; exact h0) HC.out.bel)
          simp [results, Try.results7, go_sem, HE.out]
      · have hje : j = n := by omega
        subst hje
        have HF := Lib.hid (EnS.fin (l := l) (w := w) (u := wr) (y := z) (by rw [HN.out]; exact HS.out) (by rw [HN.out]; exact h1))
        clear HS
        go_wp2
        refine bodyPost_ret (v := .tuple #[z, .int .i64 (In.eno l)]) ?_ rfl HF.out.2
        simp [results, Try.results7, go_sem, HF.out.1]
end Go.Proofs.Ythcjohfngnffpaa
