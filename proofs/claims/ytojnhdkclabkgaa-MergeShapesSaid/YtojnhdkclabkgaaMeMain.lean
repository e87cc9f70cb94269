/- A right graph keeps to the bounds that merging keeps. No condition. The code of layer 16 as a whole: what its loop keeps. No condition. The code of layer 16: Merge. No condition. -/
import Derived.Test.YtojnhdkclabkgaaMeRen
import Derived.Test.YtojnhdkclabkgaaFoFit
import Derived.Test.YtojnhdkclabkgaaMeJoin
import Derived.Test.YtojnhdkclabkgaaMeRenum
import Derived.Test.YtojnhdkclabkgaaMeCopied
import Derived.Test.YtojnhdkclabkgaaMeCodeD
import Derived.Test.YtojnhdkclabkgaaPaAns
import Derived.Test.YtojnhdkclabkgaaGrCodeH
namespace Go.Proofs.Ytojnhdkclabkgaa
namespace Me
open Gr (G Blk blk0 op0)
set_option linter.unusedVariables false
set_option linter.unusedSimpArgs false
theorem opsN_sum (l : List Blk) : ∀ k, k ≤ l.length → Gr.opsN l k = ((l.map fun x => x.ops.length).take k).sum
  | 0, _ => by simp [Gr.opsN]
  | k + 1, h => by
    have e : (l.map fun x => x.ops.length)[k]? = some ((l.getD k blk0).ops.length) := by
      rw [List.getElem?_map, List.getElem?_eq_getElem (by omega), getD_eq (by omega)]; rfl
    rw [Gr.opsN, opsN_sum l k (by omega), List.take_add_one, e, List.sum_append]
    simp
theorem Iv.of {g : G} (h : Gr.chk g = 0) : Iv g := by
  have ho := Fo.okg_of h
  unfold Gr.chk at h
  split at h
  · exact absurd h (by decide)
  · rename_i hb
    split at h
    · rename_i hr
      have hb' : Gr.big g = false := by simpa using hb
      unfold Gr.big Gr.manyB at hb'
      simp only [Bool.or_eq_false_iff, decide_eq_false_iff_not] at hb'
      obtain ⟨⟨⟨⟨b1, b2⟩, b3⟩, b4⟩, b5⟩ := hb'
      unfold Gr.right at hr
      simp only [Bool.and_eq_true] at hr
      obtain ⟨⟨⟨hd, he, hk⟩, hp⟩, hh⟩ := hr
      have hbk : ∀ k, k < g.blks.length → Gr.nxOk g.vars g.blks.length (g.blks.getD k blk0) = true := fun k hkk => by
        have := all_at (show (List.range g.blks.length).all (fun k => Gr.blkOk g.vars g.ars.length g.blks.length (g.blks.getD k blk0)) = true from hk) hkk
        unfold Gr.blkOk at this
        rw [Bool.and_eq_true] at this
        exact this.2
      have hnx : ∀ k, k < g.blks.length → ∀ x ∈ (g.blks.getD k blk0).next, 1 ≤ x ∧ x < (g.blks.length : Int) := fun k hkk x hx => by
        have h1 := hbk k hkk
        unfold Gr.nxOk at h1
        rw [Bool.and_eq_true] at h1
        obtain ⟨j, hj, rfl⟩ := mem_get (d := (0 : Int)) hx
        have h2 := all_at (show (List.range (g.blks.getD k blk0).next.length).all (fun j => Gr.nxAt g.blks.length ((g.blks.getD k blk0).next.getD j 0)) = true from h1.1) hj
        unfold Gr.nxAt at h2
        rw [Bool.and_eq_true] at h2
        have h3 := Fo.inn_of h2.2
        have h4 : (g.blks.getD k blk0).next.getD j 0 ≠ 0 := by simpa using h2.1
        omega
      have htwo : ∀ k, k < g.blks.length → (g.blks.getD k blk0).next.length ≤ 2 := fun k hkk => (ho.blk k hkk).nx
      refine ⟨?_, ho.blks, ?_, htwo, hnx, fun k hkk => ?_, ho.pts, fun q hq => ?_, fun q hq x hx => ?_, ho.hds, fun x hx => ?_, ho.ins, ho.ars⟩
      · rcases Nat.eq_zero_or_pos g.blks.length with h0 | h0
        · rw [h0] at he
          simp [Gr.ends] at he
        · exact h0
      · rw [← List.take_length (l := g.blks.map fun x => x.ops.length), List.length_map, ← opsN_sum _ _ (Nat.le_refl _)]
        omega
      · have h1 := hbk k hkk
        have h2 := htwo k hkk
        generalize (g.blks.getD k blk0) = x at h1 h2
        obtain ⟨o, c, nx⟩ := x
        match nx, h2 with
        | [], _ => simp
        | [y], _ => simp
        | [y, z], _ =>
          unfold Gr.nxOk at h1
          rw [Bool.and_eq_true] at h1
          have h3 := h1.2
          simp at h3
          simp
          exact h3.1
      · obtain ⟨j, hj, rfl⟩ := mem_get (d := ([] : List Int)) hq
        exact ho.pt j hj
      · obtain ⟨j, hj, rfl⟩ := mem_get (d := ([] : List Int)) hq
        obtain ⟨i, hi, rfl⟩ := mem_get (d := (0 : Int)) hx
        have h1 := all_at (show (List.range g.pts.length).all (fun k => Gr.ptOk g.blks.length (g.pts.getD k [])) = true from hp) hj
        have h2 := all_at (show (List.range (g.pts.getD j []).length).all (Gr.ptAt g.blks.length (g.pts.getD j [])) = true from h1) hi
        unfold Gr.ptAt at h2
        rw [Bool.and_eq_true] at h2
        exact Fo.inn_of h2.1
      · obtain ⟨j, hj, rfl⟩ := mem_get (d := ((0, 0) : Int × Int)) hx
        have h2 := all_at (show (List.range g.hds.length).all (Gr.hdAt g.blks.length g.hds) = true from hh) hj
        unfold Gr.hdAt at h2
        simp only [Bool.and_eq_true] at h2
        exact Fo.inn_of h2.1.2
    · exact absurd h (by decide)
end Me
end Go.Proofs.Ytojnhdkclabkgaa
namespace Go.Proofs.Ytojnhdkclabkgaa
open Go.RowKit
set_option linter.unusedVariables false
set_option linter.unusedSimpArgs false
namespace Me
def out (g : Gr.G) : Gr.G × List Int := mg g.blks.length g (start g.blks.length)
def one1 (t : List Int) : List (List Int) := t.map fun x => [x]
/-- The map in the making. -/
def tosK (n k : Nat) : List (List Int) := (List.range n).map fun i => if i < k then [(i : Int)] else []
theorem tosK_len (n k : Nat) : (tosK n k).length = n := by simp [tosK]
theorem tosK_at {n k i : Nat} (h : i < n) : (tosK n k).getD i [] = if i < k then [(i : Int)] else [] := by
  unfold tosK
  rw [List.getD_eq_getElem?_getD, List.getElem?_map, List.getElem?_range h]
  rfl
theorem tosK_zero (n : Nat) : tosK n 0 = List.replicate n [] := by
  apply List.ext_getElem
  · simp [tosK]
  · intro i h1 h2; simp [tosK]
theorem tosK_all (n : Nat) : tosK n n = one1 (start n) := by
  apply List.ext_getElem
  · simp [tosK, one1, start]
  · intro i h1 h2
    have hi : i < n := by simpa [tosK] using h1
    simp [tosK, one1, start, hi]
theorem tosK_set {n k : Nat} (h : k < n) : (tosK n k).set k [(k : Int)] = tosK n (k + 1) := by
  apply List.ext_getElem
  · simp [tosK]
  · intro i h1 h2
    have hi : i < n := by simpa [tosK] using h2
    rw [List.getElem_set]
    by_cases e : k = i
    · subst e; simp [tosK]
    · rw [if_neg e]
      simp only [tosK, List.getElem_map, List.getElem_range]
      by_cases h3 : i < k
      · rw [if_pos h3, if_pos (by omega)]
      · rw [if_neg h3, if_neg (by omega)]
theorem one1_len (t : List Int) : (one1 t).length = t.length := by simp [one1]
theorem one1_map (f : Int → Int) (t : List Int) : (one1 t).map (List.map f) = one1 (t.map f) := by simp [one1]
/-- Where the loop stands. -/
structure At (g G : Gr.G) (t : List Int) (f : Nat) : Prop where
  iv : Iv G
  tl : t.length = g.blks.length
  tin : ∀ x ∈ t, 0 ≤ x ∧ x < (G.blks.length : Int)
  fuel : G.blks.length ≤ f
  same : out g = mg f G t
  vars : G.vars = g.vars
  keep : G.keep = g.keep
  sh : G.sh = g.sh
theorem At.start {g : Gr.G} (h : Iv g) : At g g (Me.start g.blks.length) g.blks.length := ⟨h, start_len _, start_in, Nat.le_refl _, rfl, rfl, rfl, rfl⟩
theorem At.step {g G : Gr.G} {t : List Int} {f a : Nat} (h : At g G t f) (ha : a < G.blks.length) (hk : tk G a = true) (hf : first G = some a) : ∃ b f', Tk G a b ∧ At g (join G a b) (t.map (place a b)) f' := by
  have ht := Tk.of h.iv ha hk
  refine ⟨_, f - 1, ht, h.iv.join ht, by rw [List.length_map]; exact h.tl, in_place ht h.tin, ?_, ?_, h.vars, h.keep, h.sh⟩
  · rw [join_len ht.lb]
    have := h.fuel
    omega
  · have hf1 : f = (f - 1) + 1 := by have := h.fuel; have := h.iv.lo; omega
    rw [h.same, hf1, mg_go hf, ht.nb]
    simp
theorem At.fin {g G : Gr.G} {t : List Int} {f : Nat} (h : At g G t f) (hf : first G = none) : out g = (G, t) := by rw [h.same, mg_end hf]
theorem At.lists {g G : Gr.G} {t : List Int} {f a b : Nat} (h : At g G t f) (ht : Tk G a b) (hg : g.blks.length ≤ 64) : ∀ q ∈ lsL { G with blks := jb G.blks a b } (one1 t), q.length ≤ 64 ∧ ∀ x ∈ q, 0 ≤ x ∧ x ≤ 64 := by
  intro q hq
  unfold lsL at hq
  have hn := h.iv.hi
  have htl := h.tl
  rcases List.mem_append.1 hq with hq | hq
  · obtain ⟨x, hx, rfl⟩ := List.mem_map.1 hq
    obtain ⟨k, hk, rfl⟩ := mem_get (d := Gr.blk0) hx
    rw [show (({ G with blks := jb G.blks a b } : Gr.G).blks).length = (jb G.blks a b).length from rfl, jb_len ht.lb] at hk
    obtain ⟨j, hj1, hj2, hj3⟩ := jb_next ht hk
    show ((jb G.blks a b).getD k Gr.blk0).next.length ≤ 64 ∧ ∀ x ∈ ((jb G.blks a b).getD k Gr.blk0).next, 0 ≤ x ∧ x ≤ 64
    rw [hj3]
    exact ⟨by have := h.iv.two j hj1; omega, fun x hx => by have := h.iv.nx j hj1 x hx; omega⟩
  · rcases List.mem_append.1 hq with hq | hq
    · exact ⟨h.iv.ptl q hq, fun x hx => by have := h.iv.pt q hq x hx; omega⟩
    · unfold one1 at hq
      obtain ⟨y, hy, rfl⟩ := List.mem_map.1 hq
      refine ⟨by simp, fun x hx => ?_⟩
      have : x = y := by simpa using hx
      subst this
      have := h.tin x hy
      omega
end Me
section
variable {u u' : World} {base : Nat} {g : Gr.G} {tos : List (List Int)} {vi va vb vp vh vt : Value} {us : List (Value × Int × Value)} {ps ts : List Value}
theorem Gm.mono {base' : Nat} (h : Gm base g tos vi va vb vp vh vt us ps ts u) (hb : base' ≤ base) : Gm base' g tos vi va vb vp vh vt us ps ts u :=
  ⟨own_mono_b h.ins hb, own_mono_b h.ars hb, own_mono_b h.hds hb, h.blk.mono hb, h.cnd, fun i hi => own_mono_b (h.ops i hi) hb, h.oap, own_mono_b h.prow hb, own_mono_b h.trow hb, h.pl, h.tl, h.fam.mono hb⟩
/-- A store into a box of another type. -/
theorem Gm.box {F i : Nat} {cs : Array Value} (h : Gm base g tos vi va vb vp vh vt us ps ts u) (hb : Bk u F 40 cs) (z : Value) : Gm base g tos vi va vb vp vh vt us ps ts (u.setCell ⟨F, i, none⟩ z) := by
  refine ⟨own_store_b h.ins hb (by decide), own_store_b h.ars hb (by decide), own_store_b h.hds hb (by decide), ?_, h.cnd, fun i hi => own_store_b (h.ops i hi) hb (by decide), h.oap, own_store_b h.prow hb (by decide), own_store_b h.trow hb (by decide), h.pl, h.tl, h.fam.box hb (by decide) z⟩
  obtain ⟨hl, Q, c, cs', e, h1, h2, h3, h4, h5⟩ := h.blk
  refine ⟨hl, Q, c, cs', e, h1, h2, h3, h4.far (fun e => ?_) z, h5⟩
  have e' : Q = F := e
  subst e'
  unfold Bk at h4 hb
  rw [h4] at hb
  injection hb with hb
  injection hb with _ hb _
  exact absurd hb (by decide)
/-- Rows of the call's own that lie below its heap's end. -/
theorem Gm.rows_lt (h : Gm base g [] vi va vb vp vh nl us ps [] u) : ∀ i, i < (nxv us ++ ps).length → ∀ k, ((nxv us ++ ps).getD i nl).ownBlock = some k → k < u.heap.size := by
  intro i hi k hk
  have hf := h.fam
  rw [List.append_nil, List.append_nil] at hf
  exact own_block_lt (hf.row i (by rw [← hf.len]; exact hi)) hk
/-- A new row of one number. -/
theorem lit_own {B : Nat} (u : World) (z : Int) (hB : B ≤ u.heap.size) : (u.alloc (.cells #[.int .i64 z] 3)).ownsRow B 3 1 (.slice (some ⟨u.heap.size, 0, none⟩) 1 1) 1 [.int .i64 z] :=
  ⟨rfl, .inr ⟨u.heap.size, 1, _, rfl, hB, heap_alloc_new u _, Nat.le_refl _, by unfold maxLen; omega, rfl, rfl⟩⟩
/-- One more list of the map. -/
theorem Lst.one {B n c k : Nat} {gy : Nat} (h : Lst B u (.slice (some ⟨gy, 0, none⟩) n c) ts (Me.tosK n k)) (hk : k < n) (hB : B ≤ u.heap.size) :
    Lst B ((u.alloc (.cells #[.int .i64 (k : Int)] 3)).setCell ⟨gy, k, none⟩ (.slice (some ⟨u.heap.size, 0, none⟩) 1 1)) (.slice (some ⟨gy, 0, none⟩) n c) (ts.set k (.slice (some ⟨u.heap.size, 0, none⟩) 1 1)) (Me.tosK n (k + 1)) := by
  rw [← Me.tosK_set hk]
  have hl := Me.tosK_len n k
  have h' : Lst B u (.slice (some ⟨gy, 0, none⟩) (Me.tosK n k).length c) ts (Me.tosK n k) := by rw [hl]; exact h
  have := h'.put (k := k) (x' := .slice (some ⟨u.heap.size, 0, none⟩) 1 1) (q := [(k : Int)]) (by rw [hl]; exact hk) (World.grownBy_alloc u _ _) (lit_own u k hB) (.inr rfl)
  rw [hl] at this
  exact this
end
/-- How long a slice is. -/
def slLen : Option Value → Nat
  | some (.slice _ n _) => n
  | _ => 0
end Go.Proofs.Ytojnhdkclabkgaa
namespace Go.Proofs.Ytojnhdkclabkgaa
open Go.RowKit
set_option linter.unusedVariables false
set_option linter.unusedSimpArgs false
attribute [local go_sem] y_undef
namespace Me
def ans (g : Gr.G) : Gr.G := if Gr.chk g = 0 then (out g).1 else Gr.gz
def lst (g : Gr.G) : List (List Int) := if Gr.chk g = 0 then one1 (out g).2 else []
end Me
/-- Merge's boxes. -/
structure Mx (w : World) (gc zc : Array Value) (u : World) : Prop where
  low : Below w.heap.size w u
  gb : Bk u w.heap.size 40 gc
  rb : Bk u (w.heap.size + 1) 40 zc
theorem Mx.below {w u u' : World} {gc zc : Array Value} (h : Mx w gc zc u) (hb : Below u.heap.size u u') : Mx w gc zc u' := ⟨blt h.low hb, h.gb.below hb, h.rb.below hb⟩
theorem Mx.res {w u : World} {gc zc : Array Value} (h : Mx w gc zc u) (i : Nat) (x : Value) : Mx w gc (zc.setIfInBounds i x) (u.setCell ⟨w.heap.size + 1, i, none⟩ x) :=
  ⟨h.low.setCell (Nat.le_succ _) x, h.gb.far (by show w.heap.size ≠ w.heap.size + 1; omega) x, h.rb.set i x⟩
theorem Mx.chg {w u u' : World} {gc zc : Array Value} {base : Nat} (h : Mx w gc zc u) (hb : w.heap.size ≤ base) (hc : Chg base u u') : Mx w gc zc u' :=
  ⟨h.low.trans (hc.1.mono hb), hc.2 _ _ h.gb, hc.2 _ _ h.rb⟩
theorem Mx.at {w u : World} {gc zc : Array Value} (h : Mx w gc zc u) {F : Nat} (hF : w.heap.size + 1 + 1 ≤ F) (i : Nat) (x : Value) : Mx w gc zc (u.setCell ⟨F, i, none⟩ x) :=
  ⟨h.low.setCell (by show w.heap.size ≤ F; omega) x, h.gb.far (by show w.heap.size ≠ F; omega) x, h.rb.far (by show w.heap.size + 1 ≠ F; omega) x⟩
/-- What pair found. -/
def Po (G : Gr.G) (x y : Int) (z : Bool) : Prop := (z = false ∧ Me.first G = none) ∨ ∃ a : Nat, z = true ∧ x = a ∧ y = Me.nb G a ∧ a < G.blks.length ∧ Me.tk G a = true ∧ Me.first G = some a
theorem PairPost.po {G : Gr.G} {w w' : World} {e : Ending} (h : PairPost G w e w') : ∃ x y z, e = .returned (.tuple #[.int .i64 x, .int .i64 y, .bool z]) ∧ Below w.heap.size w w' ∧ Po G x y z := by
  obtain ⟨h1, ⟨h2, h3⟩ | ⟨a, h2, h3, h4, h5⟩⟩ := h
  · exact ⟨0, 0, false, h3, h1, .inl ⟨rfl, h2⟩⟩
  · exact ⟨a, _, true, h5, h1, .inr ⟨a, rfl, rfl, rfl, h2, h3, h4⟩⟩
theorem Me.fin_ans {g G : Gr.G} {t : List Int} {f base : Nat} {w u : World} {vi va vb vp vh vt : Value} {us : List (Value × Int × Value)} {ps ts : List Value} (hE : Me.ans g = (Me.out g).1 ∧ Me.lst g = Me.one1 (Me.out g).2) (hA : Me.At g G t f) (hf : Me.first G = none) (hb : Below w.heap.size w u) (hm : Gm base G (Me.one1 t) vi va vb vp vh vt us ps ts u) : PassAns (Me.ans g) (Me.lst g) 0 w (.returned (.tuple #[.agg #[vi, .int .i64 g.vars, .int .i64 g.keep, va, .int .i64 g.sh, vb, vp, vh], vt, .int .i64 0])) u := by
  rw [hE.1, hE.2, hA.fin hf]
  exact ⟨hb, vi, va, vb, vp, vh, vt, by rw [← hA.vars, ← hA.keep, ← hA.sh], hm.gr, hm.tos_in⟩
theorem Gm.sl {u : World} {base : Nat} {g : Gr.G} {tos : List (List Int)} {vi va vb vp vh vt : Value} {us : List (Value × Int × Value)} {ps ts : List Value} (h : Gm base g tos vi va vb vp vh vt us ps ts u) : ∃ Ai ci Aa ca Q cb Ap cp Ah ch, vi = .slice Ai g.ins.length ci ∧ va = .slice Aa g.ars.length ca ∧ vb = .slice (some ⟨Q, 0, none⟩) g.blks.length cb ∧ vp = .slice Ap g.pts.length cp ∧ vh = .slice Ah g.hds.length ch := by
  obtain ⟨A1, C1, e1⟩ := own_eta h.ins
  obtain ⟨A2, C2, e2⟩ := own_eta h.ars
  obtain ⟨A3, C3, e3⟩ := own_eta h.prow
  obtain ⟨A4, C4, e4⟩ := own_eta h.hds
  obtain ⟨_, Q, c, _, e5, _⟩ := h.blk
  exact ⟨_, _, _, _, _, _, _, _, _, _, e1, e2, e5, e3, e4⟩
set_option maxHeartbeats 2000000 in
set_option maxRecDepth 100000 in
theorem merge_any (g : Gr.G) (vi va vb vp vh : Value) (w : World) (hi : GrIn w g vi va vb vp vh) (hf : Gr.Fit g) :
    Calls Try.prog 35 #[.agg #[vi, .int .i64 g.vars, .int .i64 g.keep, va, .int .i64 g.sh, vb, vp, vh]] w (PassAns (Me.ans g) (Me.lst g) (Gr.chk g) w) := by
  obtain ⟨Ai, ci, rfl, -⟩ := hi.ins.opened
  obtain ⟨Aa, ca, rfl, -⟩ := hi.ars.opened
  obtain ⟨Ab, cb, a1, a2, k1, k2, rfl, -⟩ := id hi.blks
  obtain ⟨Aq, cp, ap, kp, rfl, -⟩ := hi.pts.opened
  obtain ⟨Ah, ch, rfl, -⟩ := hi.hds.opened
  have HI := Lib.hid hi
  obtain ⟨r, hr⟩ : ∃ r, Gr.chk g = r := ⟨_, rfl⟩
  have HCk := Lib.hid fun (W : World) (hW : Below w.heap.size w W) => gcheck_any g _ _ _ _ _ r hr W (hi.below hW) hf
  have HR := Lib.hid hr
  have HX := Lib.hid (show Mx w #[.slice Ai g.ins.length ci, .int .i64 g.vars, .int .i64 g.keep, .slice Aa g.ars.length ca, .int .i64 g.sh, .slice Ab g.blks.length cb, .slice Aq g.pts.length cp, .slice Ah g.hds.length ch] #[.slice none 0 0, .int .i64 0, .int .i64 0, .slice none 0 0, .int .i64 0, .slice none 0 0, .slice none 0 0, .slice none 0 0] ((w.alloc (.cells #[.slice Ai g.ins.length ci, .int .i64 g.vars, .int .i64 g.keep, .slice Aa g.ars.length ca, .int .i64 g.sh, .slice Ab g.blks.length cb, .slice Aq g.pts.length cp, .slice Ah g.hds.length ch] 40)).alloc (.cells #[.slice none 0 0, .int .i64 0, .int .i64 0, .slice none 0 0, .int .i64 0, .slice none 0 0, .slice none 0 0, .slice none 0 0] 40)) from by
    have h := Bk.new (w.alloc (.cells #[.slice Ai g.ins.length ci, .int .i64 g.vars, .int .i64 g.keep, .slice Aa g.ars.length ca, .int .i64 g.sh, .slice Ab g.blks.length cb, .slice Aq g.pts.length cp, .slice Ah g.hds.length ch] 40)) 40 #[.slice none 0 0, .int .i64 0, .int .i64 0, .slice none 0 0, .int .i64 0, .slice none 0 0, .slice none 0 0, .slice none 0 0]
    rw [size_alloc] at h
    exact ⟨bla (bla (Below.refl _ _) _) _, (Bk.new w _ _).below (bla (Below.refl _ _) _), h⟩)
  clear hi hf
  rw [hr]
  clear hr
  go_enter Try.func35, Try.ntmps35
  go_wp2_with fail
  refine (HCk.out _ HX.out.low).mono ?_
  rintro e w1 ⟨rfl, hb1⟩
  replace HX := Lib.hid (HX.out.below hb1)
  clear hb1 HCk
  have g0 := HX.out.gb.cell 0
  have g1 := HX.out.gb.cell 1
  have g2 := HX.out.gb.cell 2
  have g3 := HX.out.gb.cell 3
  have g4 := HX.out.gb.cell 4
  have g5 := HX.out.gb.cell 5
  have g6 := HX.out.gb.cell 6
  have g7 := HX.out.gb.cell 7
  by_cases h0 : r = 0
  · subst h0
    have HIv := Lib.hid (Me.Iv.of HR.out)
    have HEa := Lib.hid (show Me.ans g = (Me.out g).1 ∧ Me.lst g = Me.one1 (Me.out g).2 by unfold Me.ans Me.lst; rw [if_pos HR.out, if_pos HR.out]; exact ⟨rfl, rfl⟩)
    have hn64 := HIv.out.hi
    go_wp2_with fail
    refine (copied_any g _ _ _ _ _ w1 (HI.out.below HX.out.low) HIv.out).mono ?_
    rintro e w2 ⟨vi', va', vb', vp', vh', us, ps, rfl, hb2, hgm⟩
    obtain ⟨Bi, di, Ba, da, Q, db, Bp, dp, Bh, dh, rfl, rfl, rfl, rfl, rfl⟩ := hgm.sl
    have HBw := Lib.hid (show w.heap.size + 1 + 1 ≤ w1.heap.size from HX.out.rb.lt)
    have HB2 := Lib.hid (show w.heap.size + 1 + 1 ≤ w1.heap.size ∧ w1.heap.size + 1 + 1 + 1 ≤ w2.heap.size from ⟨HX.out.rb.lt, by obtain ⟨h1, cs, h2⟩ := hgm.blk.bk; have := h2.lt; omega⟩)
    have hbk : Below w2.heap.size w2 (w2.alloc (.cells #[.slice Bi g.ins.length di, .int .i64 g.vars, .int .i64 g.keep, .slice Ba g.ars.length da, .int .i64 g.sh, .slice (some ⟨Q, 0, none⟩) g.blks.length db, .slice Bp g.pts.length dp, .slice Bh g.hds.length dh] 40)) := bla (Below.refl _ _) _
    have HG := Lib.hid (hgm.below hbk)
    have HF := Lib.hid (Bk.new w2 40 #[.slice Bi g.ins.length di, .int .i64 g.vars, .int .i64 g.keep, .slice Ba g.ars.length da, .int .i64 g.sh, .slice (some ⟨Q, 0, none⟩) g.blks.length db, .slice Bp g.pts.length dp, .slice Bh g.hds.length dh])
    have HX2 := Lib.hid ((HX.out.below hb2).below hbk)
    have HFl := Lib.hid (show w1.heap.size + 1 + 1 + 1 ≤ w2.heap.size from HB2.out.2)
    clear hb2 hgm hbk HX g0 g1 g2 g3 g4 g5 g6 g7
    go_upto_region 5 with fail
    obtain ⟨F, hF⟩ : ∃ F, w2.heap.size = F := ⟨_, rfl⟩
    rw [hF] at HF HFl
    have HBF := Lib.hid (show w.heap.size + 1 + 1 ≤ F by have := HB2.out; omega)
    rw [hF]
    clear hF HB2
    generalize hW : World.alloc w2 (.cells #[.slice Bi g.ins.length di, .int .i64 g.vars, .int .i64 g.keep, .slice Ba g.ars.length da, .int .i64 g.sh, .slice (some ⟨Q, 0, none⟩) g.blks.length db, .slice Bp g.pts.length dp, .slice Bh g.hds.length dh] 40) = W3 at HG HF HX2 ⊢
    clear hW w2
    have g5 := HX2.out.gb.cell 5
    have hmk := make_lsts g.blks.length (by omega)
    have HL := Lib.hid (show Below W3.heap.size W3 (W3.alloc (.cells (slRow g.blks.length (fun _ => .slice none 0 0)) 32)) ∧ Lst W3.heap.size (W3.alloc (.cells (slRow g.blks.length (fun _ => .slice none 0 0)) 32)) (.slice (some ⟨W3.heap.size, 0, none⟩) g.blks.length g.blks.length) (List.replicate g.blks.length nl) (Me.tosK g.blks.length 0) from ⟨bla (Below.refl _ _) _, by rw [Me.tosK_zero]; exact lst_made W3 _ (Nat.le_refl _) (by omega)⟩)
    go_wp2
    clear g5 hmk
    go_loopw [26, 8] (fun i _ wr => ∃ (k : Nat) (ts : List Value), k ≤ g.blks.length ∧ i = .int .i64 k ∧ Hid (Below W3.heap.size W3 wr ∧ Lst W3.heap.size wr (.slice (some ⟨W3.heap.size, 0, none⟩) g.blks.length g.blks.length) ts (Me.tosK g.blks.length k))) (fun i _ _ => g.blks.length - (intOf i).toNat)
    case atStart => exact ⟨0, _, Nat.zero_le _, rfl, HL⟩
    case round =>
      clear HL
      obtain ⟨k, ts, hk, rfl, HL⟩ := hrel
      by_cases hlt : k < g.blks.length
      · have hlt' : (k : Int) < g.blks.length := by omega
        have hlt0 : (0 : Int) ≤ (k : Int) := by omega
        have hbk : Below wr.heap.size wr (wr.alloc (.cells #[.int .i64 (k : Int)] 3)) := bla (Below.refl _ _) _
        have hcl := own_cell nl (HL.out.2.below hbk).out (i := k) (by rw [Me.tosK_len]; exact hlt)
        have r := hcl.1
        have y := hcl.2.1
        have hsz := HL.out.1.size
        have HN := Lib.hid (show Below W3.heap.size W3 (World.setCell (wr.alloc (.cells #[.int .i64 (k : Int)] 3)) ⟨W3.heap.size, k, none⟩ (.slice (some ⟨wr.heap.size, 0, none⟩) 1 1)) ∧ Lst W3.heap.size (World.setCell (wr.alloc (.cells #[.int .i64 (k : Int)] 3)) ⟨W3.heap.size, k, none⟩ (.slice (some ⟨wr.heap.size, 0, none⟩) 1 1)) (.slice (some ⟨W3.heap.size, 0, none⟩) g.blks.length g.blks.length) (ts.set k (.slice (some ⟨wr.heap.size, 0, none⟩) 1 1)) (Me.tosK g.blks.length (k + 1)) from ⟨(blt HL.out.1 hbk).setCell (Nat.le_refl _) _, HL.out.2.one hlt hsz⟩)
        have hcl0 := own_cell nl HL.out.2.out (i := k) (by rw [Me.tosK_len]; exact hlt)
        have r0 := hcl0.1
        have y0 := hcl0.2.1
        have hgl := hcl0.2.2.1
        clear hcl hcl0 hbk HL
        go_upto_region 10 with fail
        rw [World.setCell_alloc_past _ _ _ _ (by exact hgl)] at HN
        generalize hW : World.alloc _ (.cells #[.int .i64 (k : Int)] 3) = W5 at HN ⊢
        clear hW r y r0 y0 hgl hsz
        go_wp2
        go_roundw
        case rel => exact ⟨k + 1, _, by omega, by first | rfl | go_num, HN⟩
        case measure => simp [intOf]; omega
      · have hlt' : ¬ (k : Int) < g.blks.length := by omega
        obtain rfl : k = g.blks.length := by omega
        have HM := Lib.hid (show Gm (w.heap.size + 1 + 1) g (Me.one1 (Me.start g.blks.length)) (.slice Bi g.ins.length di) (.slice Ba g.ars.length da) (.slice (some ⟨Q, 0, none⟩) g.blks.length db) (.slice Bp g.pts.length dp) (.slice Bh g.hds.length dh) (.slice (some ⟨W3.heap.size, 0, none⟩) g.blks.length g.blks.length) us ps ts wr from by
          have h1 := (HG.out.below HL.out.1).mono (show w.heap.size + 1 + 1 ≤ w1.heap.size + 1 + 1 + 1 by have := HBw.out; omega)
          have h2 := HL.out.2
          rw [Me.tosK_all] at h2
          exact h1.with_to h2 (by have := HF.out.lt; have := HBF.out; omega) HG.out.rows_lt)
        have HX := Lib.hid (HX2.out.below HL.out.1)
        have HFb := Lib.hid (HF.out.below HL.out.1)
        have HAt := Lib.hid (Me.At.start HIv.out)
        have HPn := Lib.hid (show ∀ (G : Gr.G), G.ins = g.ins → True from fun _ _ => trivial)
        clear HL HG HX2 HF HPn
        generalize W3.heap.size = V at HM ⊢
        have HEt := Lib.hid (show Value.slice (some ⟨V, 0, none⟩) g.blks.length g.blks.length = .slice (some ⟨V, 0, none⟩) g.blks.length g.blks.length from rfl)
        have c0 := HFb.out.cell 0
        have c1 := HFb.out.cell 1
        have c2 := HFb.out.cell 2
        have c3 := HFb.out.cell 3
        have c4 := HFb.out.cell 4
        have c5 := HFb.out.cell 5
        have c6 := HFb.out.cell 6
        have c7 := HFb.out.cell 7
        go_wp2_with fail
        refine (pair_any _ _ _ _ _ _ _ _ _ _ _ _ _ _ _ _ _ _ g wr HM.out.gr HAt.out.iv).mono ?_
        rintro e w4 hpp
        obtain ⟨x, y, z, rfl, hb4, hpo⟩ := hpp.po
        have HS := Lib.hid (show Me.At g g (Me.start g.blks.length) g.blks.length ∧ Gm (w.heap.size + 1 + 1) g (Me.one1 (Me.start g.blks.length)) (.slice Bi g.ins.length di) (.slice Ba g.ars.length da) (.slice (some ⟨Q, 0, none⟩) g.blks.length db) (.slice Bp g.pts.length dp) (.slice Bh g.hds.length dh) (.slice (some ⟨V, 0, none⟩) g.blks.length g.blks.length) us ps ts w4 ∧ Mx w #[.slice Ai g.ins.length ci, .int .i64 g.vars, .int .i64 g.keep, .slice Aa g.ars.length ca, .int .i64 g.sh, .slice Ab g.blks.length cb, .slice Aq g.pts.length cp, .slice Ah g.hds.length ch] #[.slice none 0 0, .int .i64 0, .int .i64 0, .slice none 0 0, .int .i64 0, .slice none 0 0, .slice none 0 0, .slice none 0 0] w4 ∧ Bk w4 F 40 #[.slice Bi g.ins.length di, .int .i64 g.vars, .int .i64 g.keep, .slice Ba g.ars.length da, .int .i64 g.sh, .slice (some ⟨Q, 0, none⟩) g.blks.length db, .slice Bp g.pts.length dp, .slice Bh g.hds.length dh] ∧ Po g x y z from ⟨HAt.out, HM.out.below hb4, HX.out.below hb4, HFb.out.below hb4, hpo⟩)
        clear HM HX HFb HAt hpp hb4 hpo c0 c1 c2 c3 c4 c5 c6 c7
        go_wp2
        go_loopw [9, 10, 11] (fun va vf vz wr => ∃ (G : Gr.G) (t : List Int) (f : Nat) (vb : Value) (us : List (Value × Int × Value)) (ps ts : List Value) (x y : Int) (z : Bool), va = .int .i64 x ∧ vf = .int .i64 y ∧ vz = .bool z ∧ Hid (Me.At g G t f ∧ Gm (w.heap.size + 1 + 1) G (Me.one1 t) (.slice Bi g.ins.length di) (.slice Ba g.ars.length da) vb (.slice Bp g.pts.length dp) (.slice Bh g.hds.length dh) (.slice (some ⟨V, 0, none⟩) g.blks.length g.blks.length) us ps ts wr ∧ Mx w #[.slice Ai g.ins.length ci, .int .i64 g.vars, .int .i64 g.keep, .slice Aa g.ars.length ca, .int .i64 g.sh, .slice Ab g.blks.length cb, .slice Aq g.pts.length cp, .slice Ah g.hds.length ch] #[.slice none 0 0, .int .i64 0, .int .i64 0, .slice none 0 0, .int .i64 0, .slice none 0 0, .slice none 0 0, .slice none 0 0] wr ∧ Bk wr F 40 #[.slice Bi g.ins.length di, .int .i64 g.vars, .int .i64 g.keep, .slice Ba g.ars.length da, .int .i64 g.sh, vb, .slice Bp g.pts.length dp, .slice Bh g.hds.length dh] ∧ Po G x y z)) (fun _ _ _ wr => slLen (wr.cell? ⟨F, 5, none⟩))
        case atStart => exact ⟨_, _, _, _, _, _, _, x, y, z, rfl, rfl, rfl, HS⟩
        case round =>
          clear HS
          obtain ⟨G, t, f, vb, us, ps, ts, x, y, z, rfl, rfl, rfl, HS⟩ := hrel
          obtain ⟨_, _, _, _, Q, cq, _, _, _, _, -, -, rfl, -, -⟩ := HS.out.2.1.sl
          have c0 := HS.out.2.2.2.1.cell 0
          have c1 := HS.out.2.2.2.1.cell 1
          have c2 := HS.out.2.2.2.1.cell 2
          have c3 := HS.out.2.2.2.1.cell 3
          have c4 := HS.out.2.2.2.1.cell 4
          have c5 := HS.out.2.2.2.1.cell 5
          have c6 := HS.out.2.2.2.1.cell 6
          have c7 := HS.out.2.2.2.1.cell 7
          rcases HS.out.2.2.2.2 with ⟨rfl, hno⟩ | ⟨a, rfl, rfl, rfl, hla, htk, hfi⟩
          · have HNo := Lib.hid hno
            clear hno
            have z0 := HS.out.2.2.1.rb.cell 0
            have y0 := HS.out.2.2.1.rb.frozen 0
            have z1 := HS.out.2.2.1.rb.cell 1
            have y1 := HS.out.2.2.1.rb.frozen 1
            have z2 := HS.out.2.2.1.rb.cell 2
            have y2 := HS.out.2.2.1.rb.frozen 2
            have z3 := HS.out.2.2.1.rb.cell 3
            have y3 := HS.out.2.2.1.rb.frozen 3
            have z4 := HS.out.2.2.1.rb.cell 4
            have y4 := HS.out.2.2.1.rb.frozen 4
            have z5 := HS.out.2.2.1.rb.cell 5
            have y5 := HS.out.2.2.1.rb.frozen 5
            have z6 := HS.out.2.2.1.rb.cell 6
            have y6 := HS.out.2.2.1.rb.frozen 6
            have z7 := HS.out.2.2.1.rb.cell 7
            have y7 := HS.out.2.2.1.rb.frozen 7
            have HM := Lib.hid (((((((((HS.out.2.1.far (p := ⟨w.heap.size + 1, 0, none⟩) (Nat.lt_succ_self _) (.slice Bi g.ins.length di)).far (p := ⟨w.heap.size + 1, 1, none⟩) (Nat.lt_succ_self _) (.int .i64 g.vars)).far (p := ⟨w.heap.size + 1, 2, none⟩) (Nat.lt_succ_self _) (.int .i64 g.keep)).far (p := ⟨w.heap.size + 1, 3, none⟩) (Nat.lt_succ_self _) (.slice Ba g.ars.length da)).far (p := ⟨w.heap.size + 1, 4, none⟩) (Nat.lt_succ_self _) (.int .i64 g.sh)).far (p := ⟨w.heap.size + 1, 5, none⟩) (Nat.lt_succ_self _) (.slice (some ⟨Q, 0, none⟩) G.blks.length cq)).far (p := ⟨w.heap.size + 1, 6, none⟩) (Nat.lt_succ_self _) (.slice Bp g.pts.length dp)).far (p := ⟨w.heap.size + 1, 7, none⟩) (Nat.lt_succ_self _) (.slice Bh g.hds.length dh)))
            have HX := Lib.hid (((((((((HS.out.2.2.1.res 0 (.slice Bi g.ins.length di)).res 1 (.int .i64 g.vars)).res 2 (.int .i64 g.keep)).res 3 (.slice Ba g.ars.length da)).res 4 (.int .i64 g.sh)).res 5 (.slice (some ⟨Q, 0, none⟩) G.blks.length cq)).res 6 (.slice Bp g.pts.length dp)).res 7 (.slice Bh g.hds.length dh)))
            have HAt := Lib.hid HS.out.1
            clear HS
            go_wp2
            refine bodyPost_ret (v := .tuple #[.agg #[.slice Bi g.ins.length di, .int .i64 g.vars, .int .i64 g.keep, .slice Ba g.ars.length da, .int .i64 g.sh, .slice (some ⟨Q, 0, none⟩) G.blks.length cq, .slice Bp g.pts.length dp, .slice Bh g.hds.length dh], .slice (some ⟨V, 0, none⟩) g.blks.length g.blks.length, .int .i64 0]) (by simp [results, Try.results35, go_sem, z0, z1, z2, z3, z4, z5, z6, z7]) rfl (Me.fin_ans HEa.out HAt.out HNo.out HX.out.low HM.out)
          · obtain ⟨b, f', ht, hat⟩ := HS.out.1.step hla htk hfi
            have HT := Lib.hid ht
            have HAt := Lib.hid hat
            rw [ht.nb]
            have HLn := Lib.hid (show (Me.jb G.blks a b).length < G.blks.length from by rw [Me.jb_len ht.lb]; have := HS.out.1.iv.lo; omega)
            have HLi := Lib.hid (HS.out.1.lists ht hn64)
            have HJ := Lib.hid (join_any (w.heap.size + 1 + 1) G (Me.one1 t) _ _ _ _ _ _ us ps ts a b wr HS.out.2.1 HS.out.1.iv ht)
            have HC := Lib.hid (show a ≤ 64 ∧ b ≤ 64 ∧ (Me.jb G.blks a b).length ≤ 64 ∧ G.pts.length ≤ 64 ∧ (Me.one1 t).length ≤ 64 ∧ G.hds.length ≤ 64 ∧ ∀ x ∈ G.hds, 0 ≤ x.1 ∧ x.1 ≤ 64 from by
              have h1 := HS.out.1.iv.hi
              have h2 := ht.la
              have h3 := ht.lb
              have h4 := HS.out.1.iv.ptn
              have h5 := HS.out.1.iv.hdn
              have h6 := HS.out.1.tl
              refine ⟨by omega, by omega, by rw [Me.jb_len ht.lb]; omega, by omega, by rw [Me.one1_len]; omega, h5, fun x hx => ?_⟩
              have h7 := HS.out.1.iv.hds x hx
              omega)
            clear ht hat htk hfi hla
            go_wp2_with fail
            refine HJ.out.mono ?_
            rintro e w5 ⟨vb2, us2, he, hgm, hchg⟩
            obtain ⟨_, _, _, _, Q2, cq2, _, _, _, _, -, -, rfl, -, -⟩ := hgm.sl
            replace HLn := HLn.out
            obtain ⟨nj, hnj⟩ : ∃ n, (Me.jb G.blks a b).length = n := ⟨_, rfl⟩
            replace hgm : Gm (w.heap.size + 1 + 1) { G with blks := Me.jb G.blks a b } (Me.one1 t) (.slice Bi g.ins.length di) (.slice Ba g.ars.length da) (.slice (some ⟨Q2, 0, none⟩) nj cq2) (.slice Bp g.pts.length dp) (.slice Bh g.hds.length dh) (.slice (some ⟨V, 0, none⟩) g.blks.length g.blks.length) us2 ps ts w5 := by rw [← hnj]; exact hgm
            rw [hnj] at HLn
            replace he : e = .returned (.slice (some ⟨Q2, 0, none⟩) nj cq2) := by rw [← hnj]; exact he
            subst he
            replace HLn := Lib.hid HLn
            clear hnj
            have hfb := hchg.2 _ _ HS.out.2.2.2.1
            have r := hfb.cell 5
            have y := hfb.frozen 5
            have HS2 := Lib.hid (show Gm (w.heap.size + 1 + 1) { G with blks := Me.jb G.blks a b } (Me.one1 t) (.slice Bi g.ins.length di) (.slice Ba g.ars.length da) (.slice (some ⟨Q2, 0, none⟩) nj cq2) (.slice Bp g.pts.length dp) (.slice Bh g.hds.length dh) (.slice (some ⟨V, 0, none⟩) g.blks.length g.blks.length) us2 ps ts (World.setCell w5 ⟨F, 5, none⟩ (.slice (some ⟨Q2, 0, none⟩) nj cq2)) ∧ Mx w #[.slice Ai g.ins.length ci, .int .i64 g.vars, .int .i64 g.keep, .slice Aa g.ars.length ca, .int .i64 g.sh, .slice Ab g.blks.length cb, .slice Aq g.pts.length cp, .slice Ah g.hds.length ch] #[.slice none 0 0, .int .i64 0, .int .i64 0, .slice none 0 0, .int .i64 0, .slice none 0 0, .slice none 0 0, .slice none 0 0] (World.setCell w5 ⟨F, 5, none⟩ (.slice (some ⟨Q2, 0, none⟩) nj cq2)) ∧ Bk (World.setCell w5 ⟨F, 5, none⟩ (.slice (some ⟨Q2, 0, none⟩) nj cq2)) F 40 #[.slice Bi g.ins.length di, .int .i64 g.vars, .int .i64 g.keep, .slice Ba g.ars.length da, .int .i64 g.sh, .slice (some ⟨Q2, 0, none⟩) nj cq2, .slice Bp g.pts.length dp, .slice Bh g.hds.length dh] from ⟨hgm.box hfb _, (HS.out.2.2.1.chg (by omega) hchg).at HBF.out 5 _, hfb.set 5 _⟩)
            have hsl0 : slLen (wr.cell? ⟨F, 5, none⟩) = G.blks.length := by rw [c5]; rfl
            have HSl := Lib.hid hsl0
            clear hsl0 HS HJ hgm hchg hfb c0 c1 c2 c3 c4 c5 c6 c7
            go_upto_region 15 with fail
            clear r y
            generalize hW : World.setCell w5 ⟨F, 5, none⟩ (.slice (some ⟨Q2, 0, none⟩) nj cq2) = W6 at HS2 ⊢
            clear hW w5
            have c0 := HS2.out.2.2.cell 0
            have c1 := HS2.out.2.2.cell 1
            have c2 := HS2.out.2.2.cell 2
            have c3 := HS2.out.2.2.cell 3
            have c4 := HS2.out.2.2.cell 4
            have c5 := HS2.out.2.2.cell 5
            have c6 := HS2.out.2.2.cell 6
            have c7 := HS2.out.2.2.cell 7
            go_wp2_with fail
            obtain ⟨q1, q2, q3, q4, q5, q6, q7⟩ := HC.out
            refine (renumber_any (w.heap.size + 1 + 1) _ (Me.one1 t) _ _ _ _ _ _ _ _ _ us2 ps ts a b W6 HS2.out.1 q1 q2 q3 q4 q5 q6 HLi.out q7).mono ?_
            rintro e w6 ⟨rfl, hgm, hchg⟩
            rw [Me.one1_map] at hgm
            have HS3 := Lib.hid (show Gm (w.heap.size + 1 + 1) (Me.join G a b) (Me.one1 (t.map (Me.place a b))) (.slice Bi g.ins.length di) (.slice Ba g.ars.length da) (.slice (some ⟨Q2, 0, none⟩) nj cq2) (.slice Bp g.pts.length dp) (.slice Bh g.hds.length dh) (.slice (some ⟨V, 0, none⟩) g.blks.length g.blks.length) us2 ps ts w6 ∧ Mx w #[.slice Ai g.ins.length ci, .int .i64 g.vars, .int .i64 g.keep, .slice Aa g.ars.length ca, .int .i64 g.sh, .slice Ab g.blks.length cb, .slice Aq g.pts.length cp, .slice Ah g.hds.length ch] #[.slice none 0 0, .int .i64 0, .int .i64 0, .slice none 0 0, .int .i64 0, .slice none 0 0, .slice none 0 0, .slice none 0 0] w6 ∧ Bk w6 F 40 #[.slice Bi g.ins.length di, .int .i64 g.vars, .int .i64 g.keep, .slice Ba g.ars.length da, .int .i64 g.sh, .slice (some ⟨Q2, 0, none⟩) nj cq2, .slice Bp g.pts.length dp, .slice Bh g.hds.length dh] from ⟨hgm, HS2.out.2.1.chg (by omega) hchg, hchg.2 _ _ HS2.out.2.2⟩)
            clear hgm hchg HS2 q1 q2 q3 q4 q5 q6 q7 c0 c1 c2 c3 c4 c5 c6 c7
            have c0 := HS3.out.2.2.cell 0
            have c1 := HS3.out.2.2.cell 1
            have c2 := HS3.out.2.2.cell 2
            have c3 := HS3.out.2.2.cell 3
            have c4 := HS3.out.2.2.cell 4
            have c5 := HS3.out.2.2.cell 5
            have c6 := HS3.out.2.2.cell 6
            have c7 := HS3.out.2.2.cell 7
            go_wp2_with fail
            refine (pair_any _ _ _ _ _ _ _ _ _ _ _ _ _ _ _ _ _ _ _ w6 HS3.out.1.gr HAt.out.iv).mono ?_
            rintro e w7 hpp
            obtain ⟨x, y, z, rfl, hb7, hpo⟩ := hpp.po
            have HS4 := Lib.hid (show Me.At g (Me.join G a b) (t.map (Me.place a b)) f' ∧ Gm (w.heap.size + 1 + 1) (Me.join G a b) (Me.one1 (t.map (Me.place a b))) (.slice Bi g.ins.length di) (.slice Ba g.ars.length da) (.slice (some ⟨Q2, 0, none⟩) nj cq2) (.slice Bp g.pts.length dp) (.slice Bh g.hds.length dh) (.slice (some ⟨V, 0, none⟩) g.blks.length g.blks.length) us2 ps ts w7 ∧ Mx w #[.slice Ai g.ins.length ci, .int .i64 g.vars, .int .i64 g.keep, .slice Aa g.ars.length ca, .int .i64 g.sh, .slice Ab g.blks.length cb, .slice Aq g.pts.length cp, .slice Ah g.hds.length ch] #[.slice none 0 0, .int .i64 0, .int .i64 0, .slice none 0 0, .int .i64 0, .slice none 0 0, .slice none 0 0, .slice none 0 0] w7 ∧ Bk w7 F 40 #[.slice Bi g.ins.length di, .int .i64 g.vars, .int .i64 g.keep, .slice Ba g.ars.length da, .int .i64 g.sh, .slice (some ⟨Q2, 0, none⟩) nj cq2, .slice Bp g.pts.length dp, .slice Bh g.hds.length dh] ∧ Po (Me.join G a b) x y z from ⟨HAt.out, HS3.out.1.below hb7, HS3.out.2.1.below hb7, HS3.out.2.2.below hb7, hpo⟩)
            clear HS3 hpp hb7 hpo c0 c1 c2 c3 c4 c5 c6 c7
            go_wp2
            go_roundw
            case rel => exact ⟨_, _, _, _, _, _, _, x, y, z, rfl, rfl, rfl, HS4⟩
            case measure =>
              have e1 : slLen (w7.cell? ⟨F, 5, none⟩) = nj := by rw [HS4.out.2.2.2.1.cell 5]; rfl
              have e2 := HSl.out
              have e3 := HLn.out
              simp only [e1, e2]
              exact e3
  · have hrn : ¬ r = 0 := h0
    have z0 := HX.out.rb.cell 0
    have y0 := HX.out.rb.frozen 0
    have z1 := HX.out.rb.cell 1
    have y1 := HX.out.rb.frozen 1
    have z2 := HX.out.rb.cell 2
    have y2 := HX.out.rb.frozen 2
    have z3 := HX.out.rb.cell 3
    have y3 := HX.out.rb.frozen 3
    have z4 := HX.out.rb.cell 4
    have y4 := HX.out.rb.frozen 4
    have z5 := HX.out.rb.cell 5
    have y5 := HX.out.rb.frozen 5
    have z6 := HX.out.rb.cell 6
    have y6 := HX.out.rb.frozen 6
    have z7 := HX.out.rb.cell 7
    have y7 := HX.out.rb.frozen 7
    have HX3 := Lib.hid (((((((((HX.out.res 0 (.slice none 0 0)).res 1 (.int .i64 0)).res 2 (.int .i64 0)).res 3 (.slice none 0 0)).res 4 (.int .i64 0)).res 5 (.slice none 0 0)).res 6 (.slice none 0 0)).res 7 (.slice none 0 0)))
    have HEa := Lib.hid (show Me.ans g = Gr.gz ∧ Me.lst g = [] by unfold Me.ans Me.lst; rw [if_neg (by rw [HR.out]; exact h0), if_neg (by rw [HR.out]; exact h0)]; exact ⟨rfl, rfl⟩)
    go_wp2
    refine bodyPost_ret (v := .tuple #[.agg #[.slice none 0 0, .int .i64 0, .int .i64 0, .slice none 0 0, .int .i64 0, .slice none 0 0, .slice none 0 0, .slice none 0 0], .slice none 0 0, .int .i64 r]) (by simp [results, Try.results35, go_sem, z0, z1, z2, z3, z4, z5, z6, z7]) rfl ?_
    rw [HEa.out.1, HEa.out.2]
    exact ⟨HX3.out.low, _, _, _, _, _, _, rfl, gz_in _, lz_in _⟩
end Go.Proofs.Ytojnhdkclabkgaa
