/- How operations of a graph are carried out, as plain functions of lists. No condition. -/
import Derived.Test.YtojnhdkclabkgaaGrMath
namespace Go.Proofs.Ytojnhdkclabkgaa
namespace Tr
open Go.RowKit (wrap32 wrap64)
/-- The index that a value means. -/
def plc (n size : Int) : Int := (n.tmod size + size).tmod size
structure St where
  vs : List Int
  ars : List (List Int)
def at_ (s : St) (v : Int) : Int := s.vs.getD v.toNat 0
def arr (s : St) (k : Int) : List Int := s.ars.getD k.toNat []
def ix (s : St) (o : Gr.Op) : Nat := (plc (at_ s o.a) (arr s o.imm).length).toNat
def act (s : St) (o : Gr.Op) : St :=
  if o.kind = 1 then { s with vs := s.vs.set o.dst.toNat o.imm }
  else if o.kind = 2 then { s with vs := s.vs.set o.dst.toNat (at_ s o.a) }
  else if o.kind = 3 then { s with vs := s.vs.set o.dst.toNat (val o.imm (at_ s o.a) (at_ s o.b)) }
  else if o.kind = 4 then { s with vs := s.vs.set o.dst.toNat ((arr s o.imm).getD (ix s o) 0) }
  else if o.kind = 5 then { s with ars := s.ars.set o.imm.toNat ((arr s o.imm).set (ix s o) (at_ s o.b)) }
  else s
/-- Behind the first k operations. -/
def acts (s : St) (l : List Gr.Op) : Nat → St
  | 0 => s
  | k + 1 => act (acts s l k) (l.getD k Gr.op0)
def isWd (n : Int) : Prop := -2147483648 ≤ n ∧ n ≤ 2147483647
/-- V variables, A arrays of 1 to 16 elements, all words. -/
structure Wf (V A : Nat) (s : St) : Prop where
  vl : s.vs.length = V
  vw : ∀ x ∈ s.vs, isWd x
  al : s.ars.length = A
  as : ∀ a ∈ s.ars, 1 ≤ a.length ∧ a.length ≤ 16
  aw : ∀ a ∈ s.ars, ∀ x ∈ a, isWd x
/-- An operation that is carried out without locks. -/
structure Ok (V A : Nat) (o : Gr.Op) : Prop where
  kind : 1 ≤ o.kind ∧ o.kind ≤ 5
  dst : o.kind ≤ 4 → 0 ≤ o.dst ∧ o.dst < V
  a : 2 ≤ o.kind → 0 ≤ o.a ∧ o.a < V
  b : o.kind = 3 ∨ o.kind = 5 → 0 ≤ o.b ∧ o.b < V
  imm : o.kind = 1 → isWd o.imm
  arr : o.kind = 4 ∨ o.kind = 5 → 0 ≤ o.imm ∧ o.imm < A
theorem plc_in {n size : Int} (h : 1 ≤ size) : 0 ≤ plc n size ∧ plc n size < size := by
  unfold plc
  have h1 := Int.tmod_lt_of_pos n (show 0 < size by omega)
  have h2 : -size < n.tmod size := by
    have := Int.tmod_lt_of_pos (-n) (show 0 < size by omega)
    rw [Int.neg_tmod] at this
    omega
  constructor
  · exact Int.tmod_nonneg _ (by omega)
  · exact Int.tmod_lt_of_pos _ (by omega)
theorem mem_at {l : List Int} {i : Nat} (h : i < l.length) : l.getD i 0 ∈ l := by
  rw [List.getD_eq_getElem?_getD, List.getElem?_eq_getElem h]
  exact List.getElem_mem h
theorem mem_set_or {α : Type} {l : List α} {i : Nat} {x y : α} (h : y ∈ l.set i x) : y = x ∨ y ∈ l := by
  rcases List.mem_or_eq_of_mem_set h with h | h
  · exact .inr h
  · exact .inl h
theorem Wf.at {V A : Nat} {s : St} (h : Wf V A s) {v : Int} (h0 : 0 ≤ v) (hv : v < V) : isWd (at_ s v) := h.vw _ (mem_at (by rw [h.vl]; omega))
theorem Wf.arr_mem {V A : Nat} {s : St} (h : Wf V A s) {k : Int} (h0 : 0 ≤ k) (hk : k < A) : arr s k ∈ s.ars := by
  unfold arr
  have hl : k.toNat < s.ars.length := by rw [h.al]; omega
  rw [List.getD_eq_getElem?_getD, List.getElem?_eq_getElem hl]
  exact List.getElem_mem hl
theorem Wf.ix_lt {V A : Nat} {s : St} (h : Wf V A s) {o : Gr.Op} (h0 : 0 ≤ o.imm) (hk : o.imm < A) : ix s o < (arr s o.imm).length := by
  have hs := h.as _ (h.arr_mem h0 hk)
  have := plc_in (n := at_ s o.a) (size := ((arr s o.imm).length : Int)) (by omega)
  unfold ix
  omega
theorem Wf.act {V A : Nat} {s : St} (h : Wf V A s) {o : Gr.Op} (ho : Ok V A o) : Wf V A (Tr.act s o) := by
  have vset : ∀ d n, isWd n → Wf V A { s with vs := s.vs.set d n } := fun d n hn => ⟨by simp [h.vl], fun x hx => (mem_set_or hx).elim (fun e => e ▸ hn) (h.vw x), h.al, h.as, h.aw⟩
  have hk := ho.kind
  unfold Tr.act
  split
  · rename_i e; exact vset _ _ (ho.imm e)
  · split
    · rename_i e; have := ho.a (by omega); exact vset _ _ (h.at this.1 this.2)
    · split
      · exact vset _ _ (val_bounds _ _ _)
      · split
        · rename_i e
          have h2 := ho.arr (.inl e)
          exact vset _ _ (h.aw _ (h.arr_mem h2.1 h2.2) _ (mem_at (h.ix_lt h2.1 h2.2)))
        · split
          · rename_i e
            have h2 := ho.arr (.inr e)
            have hb := ho.b (.inr e)
            have hm := h.arr_mem h2.1 h2.2
            refine ⟨h.vl, h.vw, by simp [h.al], fun a ha => ?_, fun a ha x hx => ?_⟩
            · rcases mem_set_or ha with rfl | ha
              · rw [List.length_set]; exact h.as _ hm
              · exact h.as a ha
            · rcases mem_set_or ha with rfl | ha
              · rcases mem_set_or hx with rfl | hx
                · exact h.at hb.1 hb.2
                · exact h.aw _ hm x hx
              · exact h.aw a ha x hx
          · exact h
theorem Wf.acts {V A : Nat} {s : St} (h : Wf V A s) {l : List Gr.Op} (hl : ∀ k, k < l.length → Ok V A (l.getD k Gr.op0)) : ∀ k, k ≤ l.length → Wf V A (Tr.acts s l k)
  | 0, _ => h
  | k + 1, hk => (Wf.acts h hl k (by omega)).act (hl k (by omega))
end Tr
end Go.Proofs.Ytojnhdkclabkgaa
