/- A run of the specification: its state in memory. No condition. -/
import Derived.Test.YtojnhdkclabkgaaTrIn
namespace Go.Proofs.Ytojnhdkclabkgaa
open Go.RowKit
set_option linter.unusedVariables false
set_option linter.unusedSimpArgs false
/-- The boxes of Run's graph and result, the run and the counts. -/
structure Rt (w : World) (gc zc : Array Value) (lo Rb Vb Cb : Nat) (x : G8) (va : Value) (us : List Value) (hv : Value) (s : Tr.St) (cnt : List Int) (steps left : Int) (u : World) : Prop where
  low : Below w.heap.size w u
  gb : Bk u w.heap.size 40 gc
  zb : Bk u (w.heap.size + 1) 45 zc
  rn : Rn lo Rb Vb x va us hv s steps left u
  cb : Bk u Cb 3 (cnt.map (Value.int .i64)).toArray
  hl : w.heap.size + 1 < lo
  hR : w.heap.size + 1 < Rb
  hV : w.heap.size + 1 < Vb
  hC : w.heap.size + 1 < Cb
  hCV : Cb ≠ Vb
  hCu : ∀ z ∈ us, z.ownBlock ≠ some Cb
section
variable {w u u' : World} {gc zc : Array Value} {lo Rb Vb Cb : Nat} {x : G8} {va hv : Value} {us : List Value} {s s' : Tr.St} {cnt : List Int} {steps left steps' left' : Int}
theorem Rt.below (h : Rt w gc zc lo Rb Vb Cb x va us hv s cnt steps left u) (hb : Below u.heap.size u u') : Rt w gc zc lo Rb Vb Cb x va us hv s cnt steps left u' := ⟨blt h.low hb, h.gb.below hb, h.zb.below hb, h.rn.below hb, h.cb.below hb, h.hl, h.hR, h.hV, h.hC, h.hCV, h.hCu⟩
theorem Rt.us_lo (h : Rt w gc zc lo Rb Vb Cb x va us hv s cnt steps left u) {z : Value} (hz : z ∈ us) {k : Nat} (hk : z.ownBlock = some k) : lo ≤ k := by
  obtain ⟨i, hi, rfl⟩ := List.getElem_of_mem hz
  exact ((h.rn.ar.2.1 i _ (List.getElem?_eq_getElem hi)).lt k hk).1
theorem Rt.mv (h : Rt w gc zc lo Rb Vb Cb x va us hv s cnt steps left u) (hm : Mv Rb Vb us u u') (hr : Rn lo Rb Vb x va us hv s' steps' left' u') : Rt w gc zc lo Rb Vb Cb x va us hv s' cnt steps' left' u' := by
  have h1 := h.hl
  have h2 := h.hR
  have h3 := h.hV
  have h4 := h.low.size
  refine ⟨⟨hm.os.trans h.low.os, hm.tape.trans h.low.tape, hm.output.trans h.low.output, Nat.le_trans h4 hm.size, fun j hj => (hm.block j (by omega) (by omega) (by omega) (fun z hz e => by have := h.us_lo hz e; omega)).trans (h.low.block j hj)⟩, hm.bk h.gb (by omega) (by omega) (fun z hz e => by have := h.us_lo hz e; omega), hm.bk h.zb (by omega) (by omega) (fun z hz e => by have := h.us_lo hz e; omega), hr, hm.bk h.cb (bk_ty h.cb h.rn.rb (by decide)) h.hCV h.hCu, h.hl, h.hR, h.hV, h.hC, h.hCV, h.hCu⟩
/-- A count is set. -/
theorem Rt.count (h : Rt w gc zc lo Rb Vb Cb x va us hv s cnt steps left u) (i : Nat) (n : Int) : Rt w gc zc lo Rb Vb Cb x va us hv s (cnt.set i n) steps left (u.setCell ⟨Cb, i, none⟩ (.int .i64 n)) := by
  have h1 := h.hC
  refine ⟨h.low.setCell (by show w.heap.size ≤ Cb; omega) _, h.gb.far (by show w.heap.size ≠ Cb; omega) _, h.zb.far (by show w.heap.size + 1 ≠ Cb; omega) _, ⟨h.rn.rb.far (p := ⟨Cb, i, none⟩) (bk_ty h.rn.rb h.cb (by decide)) _, h.rn.vb.far (p := ⟨Cb, i, none⟩) (Ne.symm h.hCV) _, ⟨own_store_b h.rn.ar.1 h.cb (by decide), fun j y hy => own_store (h.rn.ar.2.1 j y hy) (h.hCu y (List.mem_of_getElem? hy)), h.rn.ar.2.2⟩, h.rn.ap⟩, ?_, h.hl, h.hR, h.hV, h.hC, h.hCV, h.hCu⟩
  have := h.cb.set i (.int .i64 n)
  rw [List.setIfInBounds_toArray, ← List.map_set] at this
  exact this
theorem Rt.res (h : Rt w gc zc lo Rb Vb Cb x va us hv s cnt steps left u) (i : Nat) (z : Value) : Rt w gc (zc.setIfInBounds i z) lo Rb Vb Cb x va us hv s cnt steps left (u.setCell ⟨w.heap.size + 1, i, none⟩ z) := by
  have h1 := h.hl
  have h2 := h.hR
  have h3 := h.hV
  have h4 := h.hC
  refine ⟨h.low.setCell (by show w.heap.size ≤ w.heap.size + 1; omega) _, h.gb.far (by show w.heap.size ≠ w.heap.size + 1; omega) _, h.zb.set i z, ⟨h.rn.rb.far (p := ⟨w.heap.size + 1, i, none⟩) (by show Rb ≠ w.heap.size + 1; omega) _, h.rn.vb.far (p := ⟨w.heap.size + 1, i, none⟩) (by show Vb ≠ w.heap.size + 1; omega) _, ⟨own_store_b h.rn.ar.1 h.zb (by decide), fun j y hy => own_store_b (h.rn.ar.2.1 j y hy) h.zb (by decide), h.rn.ar.2.2⟩, h.rn.ap⟩, h.cb.far (by show Cb ≠ w.heap.size + 1; omega) _, h.hl, h.hR, h.hV, h.hC, h.hCV, h.hCu⟩
/-- The same, ahead of the counts. -/
structure Rp (w : World) (gc zc : Array Value) (lo Rb Vb : Nat) (x : G8) (va : Value) (us : List Value) (hv : Value) (s : Tr.St) (steps left : Int) (u : World) : Prop where
  low : Below w.heap.size w u
  gb : Bk u w.heap.size 40 gc
  zb : Bk u (w.heap.size + 1) 45 zc
  rn : Rn lo Rb Vb x va us hv s steps left u
  hl : w.heap.size + 1 < lo
  hR : w.heap.size + 1 < Rb
  hV : w.heap.size + 1 < Vb
theorem Rp.below (h : Rp w gc zc lo Rb Vb x va us hv s steps left u) (hb : Below u.heap.size u u') : Rp w gc zc lo Rb Vb x va us hv s steps left u' := ⟨blt h.low hb, h.gb.below hb, h.zb.below hb, h.rn.below hb, h.hl, h.hR, h.hV⟩
theorem Rp.push {va' xv : Value} {q : List Int} (h : Rp w gc zc lo Rb Vb x va us hv s steps left u) (hO : u.ownsRow lo 3 1 xv q.length (q.map (Value.int .i64))) (hz : ∀ z ∈ us, Ap xv z) (hx : xv.ownBlock ≠ some Vb) (hown : u'.ownsRow lo 32 1 va' (s.ars.length + 1) (us ++ [xv])) (hg : u.grownBy u' va.ownBlock)
    (hv' : va'.ownBlock = va.ownBlock ∨ va'.ownBlock = some u.heap.size) : Rp w gc zc lo Rb Vb x va' (us ++ [xv]) hv { s with ars := s.ars ++ [q] } steps left (u'.setCell ⟨Rb, 9, none⟩ va') := by
  have h1 := h.hl
  have h2 := h.hR
  have hl := h.low.size
  refine ⟨(h.low.grown hg hl (fun k hk => by have := (h.rn.ar.1.lt k hk).1; omega)).setCell (by show w.heap.size ≤ Rb; omega) _, (bk_grown_b h.gb h.rn.ar.1 (by omega) hg).far (p := ⟨Rb, 9, none⟩) (by show w.heap.size ≠ Rb; omega) _, (bk_grown_b h.zb h.rn.ar.1 (by omega) hg).far (p := ⟨Rb, 9, none⟩) (by show w.heap.size + 1 ≠ Rb; omega) _, h.rn.push hO hz hx hown hg hv', h.hl, h.hR, h.hV⟩
/-- What is left, read in memory. -/
def leftOf (Rb : Nat) (u : World) : Nat := ((u.cell? ⟨Rb, 12, none⟩).map intOf).getD 0 |>.toNat
theorem Rn.leftOf (h : Rn lo Rb Vb x va us hv s steps left u) : leftOf Rb u = left.toNat := by
  have c := h.rb.cell 12
  unfold rnC at c
  unfold Proofs.Ytojnhdkclabkgaa.leftOf
  rw [c]
  simp [intOf]
end
theorem Tr.cnt_bd (g : Gr.G) (c : Tr.Cf) (h0 : ∀ i, c.cnt.getD i 0 = 0) : ∀ n i, 0 ≤ (Tr.its g c n).cnt.getD i 0 ∧ (Tr.its g c n).cnt.getD i 0 ≤ n
  | 0, i => by show 0 ≤ c.cnt.getD i 0 ∧ c.cnt.getD i 0 ≤ _; rw [h0]; omega
  | n + 1, i => by
    have ih := Tr.cnt_bd g c h0 n
    show 0 ≤ ((Tr.its g c n).cnt.set _ _).getD i 0 ∧ ((Tr.its g c n).cnt.set _ _).getD i 0 ≤ _
    have h1 := ih i
    have h2 := ih (Tr.its g c n).at_
    rw [List.getD, List.getElem?_set]
    by_cases e : (Tr.its g c n).at_ = i
    · subst e
      rw [if_pos rfl]
      by_cases hl : (Tr.its g c n).at_ < (Tr.its g c n).cnt.length
      · rw [if_pos hl]
        simp only [Option.getD_some]
        omega
      · rw [if_neg hl]
        simp only [Option.getD_none]
        omega
    · rw [if_neg e]
      have h3 : (Tr.its g c n).cnt[i]?.getD 0 = (Tr.its g c n).cnt.getD i 0 := rfl
      rw [h3]
      omega
/-- What Run answers. -/
def RunPost (K : Nat) (c : Tr.Cf) (w : World) (e : Ending) (w' : World) : Prop :=
  ∃ v1 v2 v3 v4, e = .returned (.tuple #[.agg #[v1, v2, v3, v4, .int .i64 c.steps], .int .i64 0]) ∧ Below w.heap.size w w' ∧ NumsIn w' v1 (c.s.vs.take K) ∧ LstsIn w' v2 c.s.ars ∧ LstsIn w' v3 [] ∧ NumsIn w' v4 c.cnt
end Go.Proofs.Ytojnhdkclabkgaa
