/- The specification of layer 13: one operation. No condition. -/
import Derived.Test.YtojnhdkclabkgaaTrMath
import Derived.Test.YtojnhdkclabkgaaGrOwn
import Derived.Test.YtojnhdkclabkgaaWdRef
import Derived.Test.YtojnhdkclabkgaaStLast
import Derived.BigQuiet
import Derived.LoopTactic
import Derived.Deep.DeepCutAuto
import Derived.Deep.CutBlock
import Derived.StillTailTactics
namespace Go.Proofs.Ytojnhdkclabkgaa
open Go.RowKit
set_option linter.unusedVariables false
set_option linter.unusedSimpArgs false
attribute [local go_sem] y_undef
section
variable {P : Program} {ops : Array Oper} {Q : Exit → Act → World → Prop} {md : Region.Mode} {S : World → Prop} {m : Nat}
/-- The last one, or one that only reckons, whichever comes first. -/
theorem wpAnyL_two {i : Nat} {oi om : Oper} {fuel : Nat} {listed : Array Bool} {a : Act} {w : World} (hr : Region.ready md ops listed = [i, m]) (hm : (i != m) = true) (hoi : ops[i]? = some oi) (hom : ops[m]? = some om)
    (h1 : ∀ K' : Act → World → Prop, Shut (∀ a w, S w → (S w → wpAnyL P md ops Q S m fuel (listed.setIfInBounds i true) a w) → K' a w) → if Region.wanted oi (yielded ops a.tmps) = true then Oper.wp P oi a w K' Q else K' (a.put oi.dst undef) w)
    (h2 : ∀ K' : Act → World → Prop, Shut (∀ a w, wpAny P md ops Q fuel (listed.setIfInBounds m true) a w → K' a w) → if Region.wanted om (yielded ops a.tmps) = true then Oper.wp P om a w K' Q else K' (a.put om.dst undef) w) :
    wpAnyL P md ops Q S m (fuel + 1) listed a w := by
  refine ⟨fun h0 => (by rw [hr] at h0; cases h0), fun j hj => ?_⟩
  rw [hr] at hj
  simp only [List.mem_cons, List.not_mem_nil, or_false] at hj
  rcases hj with rfl | rfl
  · exact wpOp_step hoi (fun K' hK => h1 K' (fun a w hS hW => hK a w (.inr ⟨by simpa using hm, hS, hW hS⟩)))
  · exact wpOp_step hom (fun K' hK => h2 K' (fun a w hW => hK a w (.inl ⟨rfl, hW⟩)))
end
/-- A graph's eight cells. -/
structure G8 where
  c0 : Value
  c1 : Value
  c2 : Value
  c3 : Value
  c4 : Value
  c5 : Value
  c6 : Value
  c7 : Value
/-- The cells of a run. -/
def rnC (x : G8) (Vb V : Nat) (va hv : Value) (steps left : Int) : Array Value := #[x.c0, x.c1, x.c2, x.c3, x.c4, x.c5, x.c6, x.c7, .slice (some ⟨Vb, 0, none⟩) V V, va, hv, .int .i64 steps, .int .i64 left]
/-- A run in memory. -/
structure Rn (lo Rb Vb : Nat) (x : G8) (va : Value) (us : List Value) (hv : Value) (s : Tr.St) (steps left : Int) (u : World) : Prop where
  rb : Bk u Rb 67 (rnC x Vb s.vs.length va hv steps left)
  vb : Bk u Vb 3 (s.vs.map (Value.int .i64)).toArray
  ar : Mps lo u va us s.ars
  ap : ∀ z ∈ us, z.ownBlock ≠ some Vb
/-- Of what was there nothing has turned but a run's blocks. -/
structure Mv (Rb Vb : Nat) (us : List Value) (w w' : World) : Prop where
  os : w'.os = w.os
  tape : w'.tape = w.tape
  output : w'.output = w.output
  size : w.heap.size ≤ w'.heap.size
  block : ∀ j, j < w.heap.size → j ≠ Rb → j ≠ Vb → (∀ z ∈ us, z.ownBlock ≠ some j) → w'.heap[j]? = w.heap[j]?
section
variable {lo Rb Vb : Nat} {x : G8} {va hv : Value} {us : List Value} {s : Tr.St} {steps left : Int} {w u u' : World}
theorem Mv.of_below (h : Below w.heap.size w u) : Mv Rb Vb us w u := ⟨h.os, h.tape, h.output, h.size, fun j hj _ _ _ => h.block j hj⟩
theorem Mv.trans (h : Mv Rb Vb us w u) (k : Mv Rb Vb us u u') : Mv Rb Vb us w u' :=
  ⟨k.os.trans h.os, k.tape.trans h.tape, k.output.trans h.output, Nat.le_trans h.size k.size, fun j hj h1 h2 h3 => (k.block j (Nat.lt_of_lt_of_le hj h.size) h1 h2 h3).trans (h.block j hj h1 h2 h3)⟩
theorem Mv.put (h : Mv Rb Vb us w u) {p : Addr} (hp : p.block = Rb ∨ p.block = Vb ∨ (∃ z ∈ us, z.ownBlock = some p.block) ∨ w.heap.size ≤ p.block) (y : Value) : Mv Rb Vb us w (u.setCell p y) := by
  have hB : Below 0 u _ := (Below.refl 0 u).setCell (p := p) (Nat.zero_le _) y
  refine ⟨hB.os.trans h.os, hB.tape.trans h.tape, hB.output.trans h.output, by rw [World.size_setCell]; exact h.size, fun j hj h1 h2 h3 => (Below.heap_setCell _ _ _ j (fun e => ?_)).trans (h.block j hj h1 h2 h3)⟩
  subst e
  rcases hp with e | e | ⟨z, hz, e⟩ | e
  · exact h1 e
  · exact h2 e
  · exact h3 z hz e
  · omega
theorem Mv.bk {g : Nat} {t : TypeId} {cs : Array Value} (h : Mv Rb Vb us w u) (hb : Bk w g t cs) (h1 : g ≠ Rb) (h2 : g ≠ Vb) (h3 : ∀ z ∈ us, z.ownBlock ≠ some g) : Bk u g t cs := (h.block g hb.lt h1 h2 h3).trans hb
theorem Rn.below (h : Rn lo Rb Vb x va us hv s steps left u) (hb : Below u.heap.size u u') : Rn lo Rb Vb x va us hv s steps left u' := ⟨h.rb.below hb, h.vb.below hb, h.ar.below hb, h.ap⟩
theorem bk_ty {g g' : Nat} {t t' : TypeId} {cs cs' : Array Value} (h : Bk u g t cs) (h' : Bk u g' t' cs') (hne : t ≠ t') : g ≠ g' := fun e => by
  subst e
  unfold Bk at h h'
  rw [h] at h'
  injection h' with h'
  injection h' with _ h' _
  exact hne h'
theorem own_bk_ne {base sz n g : Nat} {e t : TypeId} {v : Value} {xs : List Value} {cs : Array Value} (h : u.ownsRow base e sz v n xs) (hb : Bk u g t cs) (hne : e ≠ t) : v.ownBlock ≠ some g := fun e1 => by
  rcases h.2 with ⟨rfl, _⟩ | ⟨g', cap, cur, rfl, _, hgg, _⟩
  · simp [Value.ownBlock] at e1
  · have e2 : g' = g := by simpa [Value.ownBlock] using e1
    subst e2
    unfold Bk at hb
    rw [hgg] at hb
    injection hb with hb
    injection hb with _ hb _
    exact hne hb
theorem Mps.store_r {g i : Nat} {t : TypeId} {cs : Array Value} {z : Value} {ts : List (List Int)} (h : Mps lo u va us ts) (hb : Bk u g t cs) (h1 : 32 ≠ t) (h2 : 3 ≠ t) : Mps lo (u.setCell ⟨g, i, none⟩ z) va us ts :=
  ⟨own_store_b h.1 hb h1, fun j y hy => own_store_b (h.2.1 j y hy) hb h2, h.2.2⟩
/-- A store into the variables. -/
theorem Rn.var (h : Rn lo Rb Vb x va us hv s steps left u) (d : Nat) (n : Int) : Rn lo Rb Vb x va us hv { s with vs := s.vs.set d n } steps left (u.setCell ⟨Vb, d, none⟩ (.int .i64 n)) := by
  have hne : Rb ≠ Vb := bk_ty h.rb h.vb (by decide)
  refine ⟨?_, ?_, ⟨own_store_b h.ar.1 h.vb (by decide), fun j y hy => own_store (h.ar.2.1 j y hy) (h.ap y (List.mem_of_getElem? hy)), h.ar.2.2⟩, h.ap⟩
  · have := h.rb.far (p := ⟨Vb, d, none⟩) hne (.int .i64 n)
    simpa using this
  · have := h.vb.set d (.int .i64 n)
    rw [List.setIfInBounds_toArray, ← List.map_set] at this
    exact this
/-- A store into the run's own cells. -/
theorem Rn.stepsTo (h : Rn lo Rb Vb x va us hv s steps left u) (n : Int) : Rn lo Rb Vb x va us hv s n left (u.setCell ⟨Rb, 11, none⟩ (.int .i64 n)) := by
  have hne : Vb ≠ Rb := bk_ty h.vb h.rb (by decide)
  refine ⟨?_, h.vb.far (p := ⟨Rb, 11, none⟩) hne _, h.ar.store_r h.rb (by decide) (by decide), h.ap⟩
  exact h.rb.set 11 (.int .i64 n)
theorem Rn.leftTo (h : Rn lo Rb Vb x va us hv s steps left u) (n : Int) : Rn lo Rb Vb x va us hv s steps n (u.setCell ⟨Rb, 12, none⟩ (.int .i64 n)) := by
  have hne : Vb ≠ Rb := bk_ty h.vb h.rb (by decide)
  refine ⟨?_, h.vb.far (p := ⟨Rb, 12, none⟩) hne _, h.ar.store_r h.rb (by decide) (by decide), h.ap⟩
  exact h.rb.set 12 (.int .i64 n)
end
set_option maxHeartbeats 4000000 in
theorem rplace_any (n size : Int) (hn : Tr.isWd n) (hs : 1 ≤ size ∧ size ≤ 16) (w : World) : Calls Try.prog 52 #[.int .i64 n, .int .i64 size] w fun e w' => e = .returned (.int .i64 (Tr.plc n size)) ∧ w' = w := by
  have h0 : ¬ size = 0 := by omega
  have h1 := Int.tmod_lt_of_pos n (show 0 < size by omega)
  have h2 : -size < n.tmod size := by
    have := Int.tmod_lt_of_pos (-n) (show 0 < size by omega)
    rw [Int.neg_tmod] at this
    omega
  obtain ⟨q, hq⟩ : ∃ q, n.tmod size = q := ⟨_, rfl⟩
  have e1 : wrap64 q = q := IntWalk.wrap64_in _ (by omega)
  have e2 : wrap64 (q + size) = q + size := IntWalk.wrap64_in _ (by omega)
  have h3 := Int.tmod_lt_of_pos (q + size) (show 0 < size by omega)
  have h4 := Int.tmod_nonneg size (show 0 ≤ q + size by omega)
  have e3 : wrap64 ((q + size).tmod size) = (q + size).tmod size := IntWalk.wrap64_in _ (by omega)
  have HP := Lib.hid (show Tr.plc n size = (q + size).tmod size by unfold Tr.plc; rw [hq])
  rw [HP.out]
  clear h1 h2 h3 h4 hn hs
  go_enter Try.func52, Try.ntmps52
  go_wp2
  go_ret
  exact ⟨rfl, rfl⟩
set_option maxHeartbeats 4000000 in
theorem rone_any (lo Rb Vb : Nat) (x : G8) (va : Value) (us : List Value) (hv : Value) (s : Tr.St) (steps left : Int) (hl : 0 ≤ left ∧ left ≤ 100000) (w : World) (h : Rn lo Rb Vb x va us hv s steps left w) :
    Calls Try.prog 27 #[.pointer (some ⟨Rb, 0, none⟩)] w fun e w' => e = .returned (.bool (decide (1 ≤ left))) ∧ Rn lo Rb Vb x va us hv s steps (left - 1) w' ∧ Mv Rb Vb us w w' := by
  have c := h.rb.cell 12
  have f := h.rb.frozen 12
  have hlt := h.rb.lt
  have e1 : wrap64 (left - 1) = left - 1 := IntWalk.wrap64_in _ (by omega)
  have HN := Lib.hid (h.leftTo (left - 1))
  have HM := Lib.hid ((Mv.of_below (Rb := Rb) (Vb := Vb) (us := us) (Below.refl _ w)).put (p := ⟨Rb, 12, none⟩) (.inl rfl) (.int .i64 (left - 1)))
  clear h
  unfold rnC at c
  by_cases h1 : 1 ≤ left
  · have hd : decide (1 ≤ left) = true := by simp [h1]
    have h2 : (0 : Int) ≤ left - 1 := by omega
    rw [hd]
    clear hd
    go_enter Try.func27, Try.ntmps27
    go_wp2
    go_ret
    exact ⟨rfl, HN.out, HM.out⟩
  · have hd : decide (1 ≤ left) = false := by simp [h1]
    have h2 : ¬ (0 : Int) ≤ left - 1 := by omega
    rw [hd]
    clear hd
    go_enter Try.func27, Try.ntmps27
    go_wp2
    go_ret
    exact ⟨rfl, HN.out, HM.out⟩
section
variable {lo Rb Vb : Nat} {x : G8} {va hv : Value} {us : List Value} {s : Tr.St} {steps left : Int} {w u u' : World}
theorem vs_cell {l : List Int} {g i : Nat} {t : TypeId} (h : Bk u g t (l.map (Value.int .i64)).toArray) (hi : i < l.length) : u.cell? ⟨g, i, none⟩ = some (.int .i64 (l.getD i 0)) := by
  rw [h.cell]
  simp [List.getD, List.getElem?_eq_getElem hi]
theorem own_num {base g n c i : Nat} {l : List Int} (h : u.ownsRow base 3 1 (.slice (some ⟨g, 0, none⟩) n c) n (l.map (Value.int .i64))) (hi : i < l.length) : u.cell? ⟨g, i, none⟩ = some (.int .i64 (l.getD i 0)) := by
  have := h.cells (g := g) rfl i (.int .i64 (l.getD i 0)) (by simp [List.getD, List.getElem?_eq_getElem hi])
  rw [show (⟨g, 0, none⟩ : Addr).add i = ⟨g, 0 + i, none⟩ from by unfold Addr.add; split <;> simp_all, Nat.zero_add] at this
  exact this
theorem own_val {base g n c i : Nat} {e : TypeId} {xs : List Value} {v : Value} (h : u.ownsRow base e 1 (.slice (some ⟨g, 0, none⟩) n c) n xs) (hi : xs[i]? = some v) : u.cell? ⟨g, i, none⟩ = some v := by
  have := h.cells (g := g) rfl i v hi
  rw [show (⟨g, 0, none⟩ : Addr).add i = ⟨g, 0 + i, none⟩ from by unfold Addr.add; split <;> simp_all, Nat.zero_add] at this
  exact this
theorem own_fz {base g n c : Nat} {e : TypeId} {sz : Nat} {xs : List Value} (h : u.ownsRow base e sz (.slice (some ⟨g, 0, none⟩) n c) n xs) (i : Nat) : u.frozen? ⟨g, i, none⟩ = false := by
  rcases h.2 with ⟨h0, _⟩ | ⟨g', cap', cur, hs, hb, hg, _⟩
  · injection h0 with h0; exact absurd h0 (by simp)
  · injection hs with h1 _ _
    injection h1 with h1
    injection h1 with h1 _ _
    subst h1
    exact (show Bk u g e cur from hg).frozen i
/-- A row of one's own with elements has an address. -/
theorem own_addr {base n : Nat} {e : TypeId} {sz : Nat} {v : Value} {xs : List Value} (h : u.ownsRow base e sz v n xs) (h0 : 0 < n) : ∃ g c, v = .slice (some ⟨g, 0, none⟩) n c := by
  rcases h.2 with ⟨_, h1⟩ | ⟨g, cap, cur, hs, _⟩
  · omega
  · exact ⟨g, cap, hs⟩
/-- One element of one row is another number. -/
theorem Mps.cellset {ts : List (List Int)} {k g n c i : Nat} {z : Int} (h : Mps lo u va us ts) (hk : us[k]? = some (.slice (some ⟨g, 0, none⟩) n c)) (hi : i < (ts.getD k []).length) : Mps lo (u.setCell ⟨g, i, none⟩ (.int .i64 z)) va us (ts.set k ((ts.getD k []).set i z)) := by
  have hl := h.len
  have hkl : k < us.length := (List.getElem?_eq_some_iff.1 hk).1
  have hmem := List.mem_of_getElem? hk
  refine ⟨by rw [List.length_set]; exact own_store h.1 (fun e => h.2.2.2 _ hmem g e rfl), fun j y hy => ?_, h.2.2⟩
  have hjl : j < us.length := (List.getElem?_eq_some_iff.1 hy).1
  rw [getD_set2 (by omega)]
  by_cases e : k = j
  · subst e
    rw [if_pos rfl]
    rw [hk] at hy
    injection hy with hy
    subst hy
    have ho := h.2.1 k _ hk
    obtain ⟨A, c', e1⟩ := own_eta ho
    injection e1 with _ e2 _
    rw [← e2] at ho hi
    rw [List.length_set, ← e2, List.map_set]
    exact own_set ho hi
  · rw [if_neg e]
    refine own_store (h.2.1 j y hy) (fun e1 => ?_)
    have hp := List.pairwise_iff_getElem.1 h.2.2.1
    have hyj : us[j] = y := (List.getElem?_eq_some_iff.1 hy).2
    have hyk : us[k] = .slice (some ⟨g, 0, none⟩) n c := (List.getElem?_eq_some_iff.1 hk).2
    rcases Nat.lt_or_ge k j with h1 | h1
    · have := hp k j hkl hjl h1
      rw [hyj, hyk] at this
      exact this g rfl e1
    · have := hp j k hjl hkl (by omega)
      rw [hyj, hyk] at this
      exact this g e1 rfl
theorem Rn.arrTo (h : Rn lo Rb Vb x va us hv s steps left u) {k g n c i : Nat} (z : Int) (hk : us[k]? = some (.slice (some ⟨g, 0, none⟩) n c)) (hi : i < (s.ars.getD k []).length) : Rn lo Rb Vb x va us hv { s with ars := s.ars.set k ((s.ars.getD k []).set i z) } steps left (u.setCell ⟨g, i, none⟩ (.int .i64 z)) := by
  have hmem := List.mem_of_getElem? hk
  have hr : Rb ≠ g := fun e => own_bk_ne (h.ar.2.1 k _ hk) h.rb (by decide) (by rw [e]; rfl)
  have hv : Vb ≠ g := fun e => h.ap _ hmem (by rw [e]; rfl)
  exact ⟨h.rb.far (p := ⟨g, i, none⟩) hr _, h.vb.far (p := ⟨g, i, none⟩) hv _, h.ar.cellset hk hi, h.ap⟩
end
/-- What do answers. -/
def DoPost (lo Rb Vb : Nat) (x : G8) (va : Value) (us : List Value) (hv : Value) (s : Tr.St) (steps left : Int) (w : World) (e : Ending) (w' : World) : Prop :=
  e = .returned (.int .i64 0) ∧ Rn lo Rb Vb x va us hv s (steps + 1) left w' ∧ Mv Rb Vb us w w'
set_option maxHeartbeats 4000000 in
set_option maxRecDepth 100000 in
theorem rdo_1 (lo Rb Vb : Nat) (x : G8) (va : Value) (us : List Value) (hv : Value) (s : Tr.St) (steps left : Int) (hs : 0 ≤ steps ∧ steps ≤ 100000) (d a b i : Int) (V A : Nat) (hw : Tr.Wf V A s) (ho : Tr.Ok V A ⟨1, d, a, b, i⟩) (w : World) (h : Rn lo Rb Vb x va us hv s steps left w) :
    Calls Try.prog 28 #[.pointer (some ⟨Rb, 0, none⟩), .agg #[.int .i64 1, .int .i64 d, .int .i64 a, .int .i64 b, .int .i64 i]] w (DoPost lo Rb Vb x va us hv (Tr.act s ⟨1, d, a, b, i⟩) steps left w) := by
  have hvl := hw.vl
  have est : wrap64 (steps + 1) = steps + 1 := IntWalk.wrap64_in _ (by omega)
  have HW := Lib.hid hw
  have HO := Lib.hid ho
  have hd := ho.dst (by show (1 : Int) ≤ 4; decide)
  simp only at hd
  obtain ⟨d, rfl⟩ : ∃ n : Nat, d = (n : Int) := ⟨d.toNat, by omega⟩
  have hd1 : d < s.vs.length := by omega
  have hd2 : (d : Int) < s.vs.length := by omega
  have hd3 : (0 : Int) ≤ (d : Int) := by omega
  have HB := Lib.hid (show Rn lo Rb Vb x va us hv s steps left (w.alloc (.cells #[.int .i64 1, .int .i64 (d : Int), .int .i64 a, .int .i64 b, .int .i64 i] 27)) ∧ Bk (w.alloc (.cells #[.int .i64 1, .int .i64 (d : Int), .int .i64 a, .int .i64 b, .int .i64 i] 27)) w.heap.size 27 #[.int .i64 1, .int .i64 (d : Int), .int .i64 a, .int .i64 b, .int .i64 i] ∧ Mv Rb Vb us w (w.alloc (.cells #[.int .i64 1, .int .i64 (d : Int), .int .i64 a, .int .i64 b, .int .i64 i] 27)) from ⟨h.below (bla (Below.refl _ _) _), Bk.new _ _ _, Mv.of_below (bla (Below.refl _ _) _)⟩)
  have HT := Lib.hid (show w.heap.size ≠ Rb ∧ w.heap.size ≠ Vb from ⟨by have := h.rb.lt; omega, by have := h.vb.lt; omega⟩)
  clear h hw ho hs
  go_enter Try.func28, Try.ntmps28
  go_upto_region 3 with fail
  generalize hW : w.alloc (.cells #[.int .i64 1, .int .i64 (d : Int), .int .i64 a, .int .i64 b, .int .i64 i] 27) = W0 at HB ⊢
  clear hW
  refine wp_region_last (S := (fun u : World => Bk u Rb 67 (rnC x Vb s.vs.length va hv steps left) ∧ Bk u Vb 3 (s.vs.map (Value.int .i64)).toArray ∧ Bk u w.heap.size 27 #[.int .i64 1, .int .i64 (d : Int), .int .i64 a, .int .i64 b, .int .i64 i] ∧ True)) 9 (by kernel_rfl) ?_ (fun hHeld => ?_)
  · exact ⟨HB.out.1.rb.below (below_drewN _ _ 1), HB.out.1.vb.below (below_drewN _ _ 1), HB.out.2.1.below (below_drewN _ _ 1), trivial⟩
  refine' wpAnyL_take (i := 0) (v := _) ?_ ?_ ?_ ?_ ?_ ?_ ?_ ?_ ?_
  rotate_left 2
  focus (simp only [List.getElem?_toArray, List.getElem?_cons_succ, List.getElem?_cons_zero]; rfl)
  focus kernel_rfl
  focus kernel_rfl
  focus kernel_rfl
  focus kernel_rfl
  focus exact (fun _ _ _ h => h)
  refine Or.inl ⟨?_, ?_⟩
  focus (go_simp; done)
  focus (intro w hSw; have m8 := hSw.1.cell 8; unfold rnC at m8; have l1 := hSw.1.lt; have o1 := hSw.2.2.1.cell 1; have o2 := hSw.2.2.1.cell 2; have o3 := hSw.2.2.1.cell 3; have o4 := hSw.2.2.1.cell 4; (first | (go_simp; done) | (go_simp; with_reducible rfl)))
  focus assumption
  (try simp only [Act.put, List.setIfInBounds_toArray, List.set_cons_zero, List.set_cons_succ])
  refine' wpAnyL_take (i := 1) (v := _) ?_ ?_ ?_ ?_ ?_ ?_ ?_ ?_ ?_
  rotate_left 2
  focus (simp only [List.getElem?_toArray, List.getElem?_cons_succ, List.getElem?_cons_zero]; rfl)
  focus kernel_rfl
  focus kernel_rfl
  focus kernel_rfl
  focus kernel_rfl
  focus exact (fun _ _ _ h => h)
  refine Or.inl ⟨?_, ?_⟩
  focus (go_simp; done)
  focus (intro w hSw; have m8 := hSw.1.cell 8; unfold rnC at m8; have l1 := hSw.1.lt; have o1 := hSw.2.2.1.cell 1; have o2 := hSw.2.2.1.cell 2; have o3 := hSw.2.2.1.cell 3; have o4 := hSw.2.2.1.cell 4; (first | (go_simp; done) | (go_simp; with_reducible rfl)))
  focus assumption
  (try simp only [Act.put, List.setIfInBounds_toArray, List.set_cons_zero, List.set_cons_succ])
  refine' wpAnyL_take (i := 2) (v := _) ?_ ?_ ?_ ?_ ?_ ?_ ?_ ?_ ?_
  rotate_left 2
  focus (simp only [List.getElem?_toArray, List.getElem?_cons_succ, List.getElem?_cons_zero]; rfl)
  focus kernel_rfl
  focus kernel_rfl
  focus kernel_rfl
  focus kernel_rfl
  focus exact (fun _ _ _ h => h)
  refine Or.inl ⟨?_, ?_⟩
  focus (go_simp; done)
  focus (intro w hSw; have m8 := hSw.1.cell 8; unfold rnC at m8; have l1 := hSw.1.lt; have o1 := hSw.2.2.1.cell 1; have o2 := hSw.2.2.1.cell 2; have o3 := hSw.2.2.1.cell 3; have o4 := hSw.2.2.1.cell 4; (first | (go_simp; done) | (go_simp; with_reducible rfl)))
  focus assumption
  (try simp only [Act.put, List.setIfInBounds_toArray, List.set_cons_zero, List.set_cons_succ])
  refine' wpAnyL_take (i := 3) (v := _) ?_ ?_ ?_ ?_ ?_ ?_ ?_ ?_ ?_
  rotate_left 2
  focus (simp only [List.getElem?_toArray, List.getElem?_cons_succ, List.getElem?_cons_zero]; rfl)
  focus kernel_rfl
  focus kernel_rfl
  focus kernel_rfl
  focus kernel_rfl
  focus exact (fun _ _ _ h => h)
  refine Or.inl ⟨?_, ?_⟩
  focus (go_simp; done)
  focus (intro w hSw; have m8 := hSw.1.cell 8; unfold rnC at m8; have l1 := hSw.1.lt; have o1 := hSw.2.2.1.cell 1; have o2 := hSw.2.2.1.cell 2; have o3 := hSw.2.2.1.cell 3; have o4 := hSw.2.2.1.cell 4; (first | (go_simp; done) | (go_simp; with_reducible rfl)))
  focus assumption
  (try simp only [Act.put, List.setIfInBounds_toArray, List.set_cons_zero, List.set_cons_succ])
  refine' wpAnyL_take (i := 4) (v := _) ?_ ?_ ?_ ?_ ?_ ?_ ?_ ?_ ?_
  rotate_left 2
  focus (simp only [List.getElem?_toArray, List.getElem?_cons_succ, List.getElem?_cons_zero]; rfl)
  focus kernel_rfl
  focus kernel_rfl
  focus kernel_rfl
  focus kernel_rfl
  focus exact (fun _ _ _ h => h)
  refine Or.inl ⟨?_, ?_⟩
  focus (go_simp; done)
  focus (intro w hSw; have m8 := hSw.1.cell 8; unfold rnC at m8; have l1 := hSw.1.lt; have o1 := hSw.2.2.1.cell 1; have o2 := hSw.2.2.1.cell 2; have o3 := hSw.2.2.1.cell 3; have o4 := hSw.2.2.1.cell 4; (first | (go_simp; done) | (go_simp; with_reducible rfl)))
  focus assumption
  (try simp only [Act.put, List.setIfInBounds_toArray, List.set_cons_zero, List.set_cons_succ])
  refine' wpAnyL_take (i := 5) (v := _) ?_ ?_ ?_ ?_ ?_ ?_ ?_ ?_ ?_
  rotate_left 2
  focus (simp only [List.getElem?_toArray, List.getElem?_cons_succ, List.getElem?_cons_zero]; rfl)
  focus kernel_rfl
  focus kernel_rfl
  focus kernel_rfl
  focus kernel_rfl
  focus exact (fun _ _ _ h => h)
  refine Or.inl ⟨?_, ?_⟩
  focus (go_simp; done)
  focus (intro w hSw; have m8 := hSw.1.cell 8; unfold rnC at m8; have l1 := hSw.1.lt; have o1 := hSw.2.2.1.cell 1; have o2 := hSw.2.2.1.cell 2; have o3 := hSw.2.2.1.cell 3; have o4 := hSw.2.2.1.cell 4; (first | (go_simp; done) | (go_simp; with_reducible rfl)))
  focus assumption
  (try simp only [Act.put, List.setIfInBounds_toArray, List.set_cons_zero, List.set_cons_succ])
  refine' wpAnyL_take (i := 6) (v := _) ?_ ?_ ?_ ?_ ?_ ?_ ?_ ?_ ?_
  rotate_left 2
  focus (simp only [List.getElem?_toArray, List.getElem?_cons_succ, List.getElem?_cons_zero]; rfl)
  focus kernel_rfl
  focus kernel_rfl
  focus kernel_rfl
  focus kernel_rfl
  focus exact (fun _ _ _ h => h)
  refine Or.inl ⟨?_, ?_⟩
  focus (go_simp; done)
  focus (intro w hSw; have m8 := hSw.1.cell 8; unfold rnC at m8; have l1 := hSw.1.lt; have o1 := hSw.2.2.1.cell 1; have o2 := hSw.2.2.1.cell 2; have o3 := hSw.2.2.1.cell 3; have o4 := hSw.2.2.1.cell 4; (first | (go_simp; done) | (go_simp; with_reducible rfl)))
  focus assumption
  (try simp only [Act.put, List.setIfInBounds_toArray, List.set_cons_zero, List.set_cons_succ])
  refine' wpAnyL_take (i := 7) (v := _) ?_ ?_ ?_ ?_ ?_ ?_ ?_ ?_ ?_
  rotate_left 2
  focus (simp only [List.getElem?_toArray, List.getElem?_cons_succ, List.getElem?_cons_zero]; rfl)
  focus kernel_rfl
  focus kernel_rfl
  focus kernel_rfl
  focus kernel_rfl
  focus exact (fun _ _ _ h => h)
  refine Or.inl ⟨?_, ?_⟩
  focus (go_simp; done)
  focus (intro w hSw; have m8 := hSw.1.cell 8; unfold rnC at m8; have l1 := hSw.1.lt; have o1 := hSw.2.2.1.cell 1; have o2 := hSw.2.2.1.cell 2; have o3 := hSw.2.2.1.cell 3; have o4 := hSw.2.2.1.cell 4; (first | (go_simp; done) | (go_simp; with_reducible rfl)))
  focus assumption
  (try simp only [Act.put, List.setIfInBounds_toArray, List.set_cons_zero, List.set_cons_succ])
  refine' wpAnyL_take (i := 8) (v := _) ?_ ?_ ?_ ?_ ?_ ?_ ?_ ?_ ?_
  rotate_left 2
  focus (simp only [List.getElem?_toArray, List.getElem?_cons_succ, List.getElem?_cons_zero]; rfl)
  focus kernel_rfl
  focus kernel_rfl
  focus kernel_rfl
  focus kernel_rfl
  focus exact (fun _ _ _ h => h)
  refine Or.inl ⟨?_, ?_⟩
  focus (go_simp; done)
  focus (intro w hSw; have m8 := hSw.1.cell 8; unfold rnC at m8; have l1 := hSw.1.lt; have o1 := hSw.2.2.1.cell 1; have o2 := hSw.2.2.1.cell 2; have o3 := hSw.2.2.1.cell 3; have o4 := hSw.2.2.1.cell 4; (first | (go_simp; done) | (go_simp; with_reducible rfl)))
  focus assumption
  (try simp only [Act.put, List.setIfInBounds_toArray, List.set_cons_zero, List.set_cons_succ])
  refine' wpAnyL_last ?_ ?_ (fun K hK => ?_)
  rotate_left
  focus kernel_rfl
  focus (simp only [List.getElem?_toArray, List.getElem?_cons_succ, List.getElem?_cons_zero]; rfl)
  have r0 := vs_cell hHeld.2.1 (i := d) (by omega)
  have f0 := hHeld.2.1.frozen d
  have hlo := hHeld.2.1.lt
  go_simp
  refine hK.out _ _ ?_
  clear hK K
  (try simp only [Act.put, List.setIfInBounds_toArray, List.set_cons_zero, List.set_cons_succ])
  refine wpAny_done (by kernel_rfl) ?_ _
  have HR1 := Lib.hid (show Rn lo Rb Vb x va us hv { s with vs := s.vs.set d i } steps left (W0.setCell ⟨Vb, d, none⟩ (.int .i64 i)).drew from (HB.out.1.var d i).below (below_drewN _ _ 1))
  have HM1 := Lib.hid (show Mv Rb Vb us w (W0.setCell ⟨Vb, d, none⟩ (.int .i64 i)).drew from (HB.out.2.2.put (p := ⟨Vb, d, none⟩) (.inr (.inl rfl)) (.int .i64 i)).trans (Mv.of_below (below_drewN _ _ 1)))
  generalize hW : (World.setCell W0 ⟨Vb, d, none⟩ (Value.int .i64 i)).drew = W1 at HR1 HM1 ⊢
  clear hW r0 f0 hlo HB
  clear hHeld
  have c := HR1.out.rb.cell 11
  unfold rnC at c
  have f := HR1.out.rb.frozen 11
  have hlt := HR1.out.rb.lt
  have HN := Lib.hid (HR1.out.stepsTo (steps + 1))
  have HM2 := Lib.hid (HM1.out.put (p := ⟨Rb, 11, none⟩) (.inl rfl) (.int .i64 (steps + 1)))
  clear HR1 HM1
  go_wp2
  go_ret
  refine ⟨rfl, ?_, HM2.out⟩
  have hN := HN.out
  unfold Tr.act
  simp only [if_pos, Int.toNat_natCast]
  exact hN
set_option maxHeartbeats 4000000 in
set_option maxRecDepth 100000 in
theorem rdo_2 (lo Rb Vb : Nat) (x : G8) (va : Value) (us : List Value) (hv : Value) (s : Tr.St) (steps left : Int) (hs : 0 ≤ steps ∧ steps ≤ 100000) (d a b i : Int) (V A : Nat) (hw : Tr.Wf V A s) (ho : Tr.Ok V A ⟨2, d, a, b, i⟩) (w : World) (h : Rn lo Rb Vb x va us hv s steps left w) :
    Calls Try.prog 28 #[.pointer (some ⟨Rb, 0, none⟩), .agg #[.int .i64 2, .int .i64 d, .int .i64 a, .int .i64 b, .int .i64 i]] w (DoPost lo Rb Vb x va us hv (Tr.act s ⟨2, d, a, b, i⟩) steps left w) := by
  have hvl := hw.vl
  have est : wrap64 (steps + 1) = steps + 1 := IntWalk.wrap64_in _ (by omega)
  have HW := Lib.hid hw
  have HO := Lib.hid ho
  have hd := ho.dst (by show (2 : Int) ≤ 4; decide)
  have ha := ho.a (by show (2 : Int) ≤ 2; decide)
  simp only at hd ha
  obtain ⟨d, rfl⟩ : ∃ n : Nat, d = (n : Int) := ⟨d.toNat, by omega⟩
  obtain ⟨a, rfl⟩ : ∃ n : Nat, a = (n : Int) := ⟨a.toNat, by omega⟩
  have hd1 : d < s.vs.length := by omega
  have hd2 : (d : Int) < s.vs.length := by omega
  have hd3 : (0 : Int) ≤ (d : Int) := by omega
  have ha1 : a < s.vs.length := by omega
  have ha2 : (a : Int) < s.vs.length := by omega
  have ha3 : (0 : Int) ≤ (a : Int) := by omega
  have HB := Lib.hid (show Rn lo Rb Vb x va us hv s steps left (w.alloc (.cells #[.int .i64 2, .int .i64 (d : Int), .int .i64 (a : Int), .int .i64 b, .int .i64 i] 27)) ∧ Bk (w.alloc (.cells #[.int .i64 2, .int .i64 (d : Int), .int .i64 (a : Int), .int .i64 b, .int .i64 i] 27)) w.heap.size 27 #[.int .i64 2, .int .i64 (d : Int), .int .i64 (a : Int), .int .i64 b, .int .i64 i] ∧ Mv Rb Vb us w (w.alloc (.cells #[.int .i64 2, .int .i64 (d : Int), .int .i64 (a : Int), .int .i64 b, .int .i64 i] 27)) from ⟨h.below (bla (Below.refl _ _) _), Bk.new _ _ _, Mv.of_below (bla (Below.refl _ _) _)⟩)
  have HT := Lib.hid (show w.heap.size ≠ Rb ∧ w.heap.size ≠ Vb from ⟨by have := h.rb.lt; omega, by have := h.vb.lt; omega⟩)
  clear h hw ho hs
  go_enter Try.func28, Try.ntmps28
  go_upto_region 5 with fail
  generalize hW : w.alloc (.cells #[.int .i64 2, .int .i64 (d : Int), .int .i64 (a : Int), .int .i64 b, .int .i64 i] 27) = W0 at HB ⊢
  clear hW
  obtain ⟨xa, hxa⟩ : ∃ z, s.vs.getD a 0 = z := ⟨_, rfl⟩
  have HXa := Lib.hid hxa
  clear hxa
  refine wp_region_last (S := (fun u : World => Bk u Rb 67 (rnC x Vb s.vs.length va hv steps left) ∧ Bk u Vb 3 (s.vs.map (Value.int .i64)).toArray ∧ Bk u w.heap.size 27 #[.int .i64 2, .int .i64 (d : Int), .int .i64 (a : Int), .int .i64 b, .int .i64 i] ∧ True)) 15 (by kernel_rfl) ?_ (fun hHeld => ?_)
  · exact ⟨HB.out.1.rb.below (below_drewN _ _ 1), HB.out.1.vb.below (below_drewN _ _ 1), HB.out.2.1.below (below_drewN _ _ 1), trivial⟩
  refine' wpAnyL_take (i := 0) (v := _) ?_ ?_ ?_ ?_ ?_ ?_ ?_ ?_ ?_
  rotate_left 2
  focus (simp only [List.getElem?_toArray, List.getElem?_cons_succ, List.getElem?_cons_zero]; rfl)
  focus kernel_rfl
  focus kernel_rfl
  focus kernel_rfl
  focus kernel_rfl
  focus exact (fun _ _ _ h => h)
  refine Or.inl ⟨?_, ?_⟩
  focus (go_simp; done)
  focus (intro w hSw; have m8 := hSw.1.cell 8; unfold rnC at m8; have l1 := hSw.1.lt; have o1 := hSw.2.2.1.cell 1; have o2 := hSw.2.2.1.cell 2; have o3 := hSw.2.2.1.cell 3; have o4 := hSw.2.2.1.cell 4; have va := vs_cell hSw.2.1 (i := a) (by omega); rw [HXa.out] at va; (first | (go_simp; done) | (go_simp; with_reducible rfl)))
  focus assumption
  (try simp only [Act.put, List.setIfInBounds_toArray, List.set_cons_zero, List.set_cons_succ])
  refine' wpAnyL_take (i := 1) (v := _) ?_ ?_ ?_ ?_ ?_ ?_ ?_ ?_ ?_
  rotate_left 2
  focus (simp only [List.getElem?_toArray, List.getElem?_cons_succ, List.getElem?_cons_zero]; rfl)
  focus kernel_rfl
  focus kernel_rfl
  focus kernel_rfl
  focus kernel_rfl
  focus exact (fun _ _ _ h => h)
  refine Or.inl ⟨?_, ?_⟩
  focus (go_simp; done)
  focus (intro w hSw; have m8 := hSw.1.cell 8; unfold rnC at m8; have l1 := hSw.1.lt; have o1 := hSw.2.2.1.cell 1; have o2 := hSw.2.2.1.cell 2; have o3 := hSw.2.2.1.cell 3; have o4 := hSw.2.2.1.cell 4; have va := vs_cell hSw.2.1 (i := a) (by omega); rw [HXa.out] at va; (first | (go_simp; done) | (go_simp; with_reducible rfl)))
  focus assumption
  (try simp only [Act.put, List.setIfInBounds_toArray, List.set_cons_zero, List.set_cons_succ])
  refine' wpAnyL_take (i := 2) (v := _) ?_ ?_ ?_ ?_ ?_ ?_ ?_ ?_ ?_
  rotate_left 2
  focus (simp only [List.getElem?_toArray, List.getElem?_cons_succ, List.getElem?_cons_zero]; rfl)
  focus kernel_rfl
  focus kernel_rfl
  focus kernel_rfl
  focus kernel_rfl
  focus exact (fun _ _ _ h => h)
  refine Or.inl ⟨?_, ?_⟩
  focus (go_simp; done)
  focus (intro w hSw; have m8 := hSw.1.cell 8; unfold rnC at m8; have l1 := hSw.1.lt; have o1 := hSw.2.2.1.cell 1; have o2 := hSw.2.2.1.cell 2; have o3 := hSw.2.2.1.cell 3; have o4 := hSw.2.2.1.cell 4; have va := vs_cell hSw.2.1 (i := a) (by omega); rw [HXa.out] at va; (first | (go_simp; done) | (go_simp; with_reducible rfl)))
  focus assumption
  (try simp only [Act.put, List.setIfInBounds_toArray, List.set_cons_zero, List.set_cons_succ])
  refine' wpAnyL_take (i := 3) (v := _) ?_ ?_ ?_ ?_ ?_ ?_ ?_ ?_ ?_
  rotate_left 2
  focus (simp only [List.getElem?_toArray, List.getElem?_cons_succ, List.getElem?_cons_zero]; rfl)
  focus kernel_rfl
  focus kernel_rfl
  focus kernel_rfl
  focus kernel_rfl
  focus exact (fun _ _ _ h => h)
  refine Or.inl ⟨?_, ?_⟩
  focus (go_simp; done)
  focus (intro w hSw; have m8 := hSw.1.cell 8; unfold rnC at m8; have l1 := hSw.1.lt; have o1 := hSw.2.2.1.cell 1; have o2 := hSw.2.2.1.cell 2; have o3 := hSw.2.2.1.cell 3; have o4 := hSw.2.2.1.cell 4; have va := vs_cell hSw.2.1 (i := a) (by omega); rw [HXa.out] at va; (first | (go_simp; done) | (go_simp; with_reducible rfl)))
  focus assumption
  (try simp only [Act.put, List.setIfInBounds_toArray, List.set_cons_zero, List.set_cons_succ])
  refine' wpAnyL_take (i := 4) (v := _) ?_ ?_ ?_ ?_ ?_ ?_ ?_ ?_ ?_
  rotate_left 2
  focus (simp only [List.getElem?_toArray, List.getElem?_cons_succ, List.getElem?_cons_zero]; rfl)
  focus kernel_rfl
  focus kernel_rfl
  focus kernel_rfl
  focus kernel_rfl
  focus exact (fun _ _ _ h => h)
  refine Or.inl ⟨?_, ?_⟩
  focus (go_simp; done)
  focus (intro w hSw; have m8 := hSw.1.cell 8; unfold rnC at m8; have l1 := hSw.1.lt; have o1 := hSw.2.2.1.cell 1; have o2 := hSw.2.2.1.cell 2; have o3 := hSw.2.2.1.cell 3; have o4 := hSw.2.2.1.cell 4; have va := vs_cell hSw.2.1 (i := a) (by omega); rw [HXa.out] at va; (first | (go_simp; done) | (go_simp; with_reducible rfl)))
  focus assumption
  (try simp only [Act.put, List.setIfInBounds_toArray, List.set_cons_zero, List.set_cons_succ])
  refine' wpAnyL_take (i := 5) (v := _) ?_ ?_ ?_ ?_ ?_ ?_ ?_ ?_ ?_
  rotate_left 2
  focus (simp only [List.getElem?_toArray, List.getElem?_cons_succ, List.getElem?_cons_zero]; rfl)
  focus kernel_rfl
  focus kernel_rfl
  focus kernel_rfl
  focus kernel_rfl
  focus exact (fun _ _ _ h => h)
  refine Or.inl ⟨?_, ?_⟩
  focus (go_simp; done)
  focus (intro w hSw; have m8 := hSw.1.cell 8; unfold rnC at m8; have l1 := hSw.1.lt; have o1 := hSw.2.2.1.cell 1; have o2 := hSw.2.2.1.cell 2; have o3 := hSw.2.2.1.cell 3; have o4 := hSw.2.2.1.cell 4; have va := vs_cell hSw.2.1 (i := a) (by omega); rw [HXa.out] at va; (first | (go_simp; done) | (go_simp; with_reducible rfl)))
  focus assumption
  (try simp only [Act.put, List.setIfInBounds_toArray, List.set_cons_zero, List.set_cons_succ])
  refine' wpAnyL_take (i := 6) (v := _) ?_ ?_ ?_ ?_ ?_ ?_ ?_ ?_ ?_
  rotate_left 2
  focus (simp only [List.getElem?_toArray, List.getElem?_cons_succ, List.getElem?_cons_zero]; rfl)
  focus kernel_rfl
  focus kernel_rfl
  focus kernel_rfl
  focus kernel_rfl
  focus exact (fun _ _ _ h => h)
  refine Or.inl ⟨?_, ?_⟩
  focus (go_simp; done)
  focus (intro w hSw; have m8 := hSw.1.cell 8; unfold rnC at m8; have l1 := hSw.1.lt; have o1 := hSw.2.2.1.cell 1; have o2 := hSw.2.2.1.cell 2; have o3 := hSw.2.2.1.cell 3; have o4 := hSw.2.2.1.cell 4; have va := vs_cell hSw.2.1 (i := a) (by omega); rw [HXa.out] at va; (first | (go_simp; done) | (go_simp; with_reducible rfl)))
  focus assumption
  (try simp only [Act.put, List.setIfInBounds_toArray, List.set_cons_zero, List.set_cons_succ])
  refine' wpAnyL_take (i := 7) (v := _) ?_ ?_ ?_ ?_ ?_ ?_ ?_ ?_ ?_
  rotate_left 2
  focus (simp only [List.getElem?_toArray, List.getElem?_cons_succ, List.getElem?_cons_zero]; rfl)
  focus kernel_rfl
  focus kernel_rfl
  focus kernel_rfl
  focus kernel_rfl
  focus exact (fun _ _ _ h => h)
  refine Or.inl ⟨?_, ?_⟩
  focus (go_simp; done)
  focus (intro w hSw; have m8 := hSw.1.cell 8; unfold rnC at m8; have l1 := hSw.1.lt; have o1 := hSw.2.2.1.cell 1; have o2 := hSw.2.2.1.cell 2; have o3 := hSw.2.2.1.cell 3; have o4 := hSw.2.2.1.cell 4; have va := vs_cell hSw.2.1 (i := a) (by omega); rw [HXa.out] at va; (first | (go_simp; done) | (go_simp; with_reducible rfl)))
  focus assumption
  (try simp only [Act.put, List.setIfInBounds_toArray, List.set_cons_zero, List.set_cons_succ])
  refine' wpAnyL_take (i := 8) (v := _) ?_ ?_ ?_ ?_ ?_ ?_ ?_ ?_ ?_
  rotate_left 2
  focus (simp only [List.getElem?_toArray, List.getElem?_cons_succ, List.getElem?_cons_zero]; rfl)
  focus kernel_rfl
  focus kernel_rfl
  focus kernel_rfl
  focus kernel_rfl
  focus exact (fun _ _ _ h => h)
  refine Or.inl ⟨?_, ?_⟩
  focus (go_simp; done)
  focus (intro w hSw; have m8 := hSw.1.cell 8; unfold rnC at m8; have l1 := hSw.1.lt; have o1 := hSw.2.2.1.cell 1; have o2 := hSw.2.2.1.cell 2; have o3 := hSw.2.2.1.cell 3; have o4 := hSw.2.2.1.cell 4; have va := vs_cell hSw.2.1 (i := a) (by omega); rw [HXa.out] at va; (first | (go_simp; done) | (go_simp; with_reducible rfl)))
  focus assumption
  (try simp only [Act.put, List.setIfInBounds_toArray, List.set_cons_zero, List.set_cons_succ])
  refine' wpAnyL_take (i := 9) (v := _) ?_ ?_ ?_ ?_ ?_ ?_ ?_ ?_ ?_
  rotate_left 2
  focus (simp only [List.getElem?_toArray, List.getElem?_cons_succ, List.getElem?_cons_zero]; rfl)
  focus kernel_rfl
  focus kernel_rfl
  focus kernel_rfl
  focus kernel_rfl
  focus exact (fun _ _ _ h => h)
  refine Or.inl ⟨?_, ?_⟩
  focus (go_simp; done)
  focus (intro w hSw; have m8 := hSw.1.cell 8; unfold rnC at m8; have l1 := hSw.1.lt; have o1 := hSw.2.2.1.cell 1; have o2 := hSw.2.2.1.cell 2; have o3 := hSw.2.2.1.cell 3; have o4 := hSw.2.2.1.cell 4; have va := vs_cell hSw.2.1 (i := a) (by omega); rw [HXa.out] at va; (first | (go_simp; done) | (go_simp; with_reducible rfl)))
  focus assumption
  (try simp only [Act.put, List.setIfInBounds_toArray, List.set_cons_zero, List.set_cons_succ])
  refine' wpAnyL_take (i := 10) (v := _) ?_ ?_ ?_ ?_ ?_ ?_ ?_ ?_ ?_
  rotate_left 2
  focus (simp only [List.getElem?_toArray, List.getElem?_cons_succ, List.getElem?_cons_zero]; rfl)
  focus kernel_rfl
  focus kernel_rfl
  focus kernel_rfl
  focus kernel_rfl
  focus exact (fun _ _ _ h => h)
  refine Or.inl ⟨?_, ?_⟩
  focus (go_simp; done)
  focus (intro w hSw; have m8 := hSw.1.cell 8; unfold rnC at m8; have l1 := hSw.1.lt; have o1 := hSw.2.2.1.cell 1; have o2 := hSw.2.2.1.cell 2; have o3 := hSw.2.2.1.cell 3; have o4 := hSw.2.2.1.cell 4; have va := vs_cell hSw.2.1 (i := a) (by omega); rw [HXa.out] at va; (first | (go_simp; done) | (go_simp; with_reducible rfl)))
  focus assumption
  (try simp only [Act.put, List.setIfInBounds_toArray, List.set_cons_zero, List.set_cons_succ])
  refine' wpAnyL_take (i := 11) (v := _) ?_ ?_ ?_ ?_ ?_ ?_ ?_ ?_ ?_
  rotate_left 2
  focus (simp only [List.getElem?_toArray, List.getElem?_cons_succ, List.getElem?_cons_zero]; rfl)
  focus kernel_rfl
  focus kernel_rfl
  focus kernel_rfl
  focus kernel_rfl
  focus exact (fun _ _ _ h => h)
  refine Or.inl ⟨?_, ?_⟩
  focus (go_simp; done)
  focus (intro w hSw; have m8 := hSw.1.cell 8; unfold rnC at m8; have l1 := hSw.1.lt; have o1 := hSw.2.2.1.cell 1; have o2 := hSw.2.2.1.cell 2; have o3 := hSw.2.2.1.cell 3; have o4 := hSw.2.2.1.cell 4; have va := vs_cell hSw.2.1 (i := a) (by omega); rw [HXa.out] at va; (first | (go_simp; done) | (go_simp; with_reducible rfl)))
  focus assumption
  (try simp only [Act.put, List.setIfInBounds_toArray, List.set_cons_zero, List.set_cons_succ])
  refine' wpAnyL_take (i := 12) (v := _) ?_ ?_ ?_ ?_ ?_ ?_ ?_ ?_ ?_
  rotate_left 2
  focus (simp only [List.getElem?_toArray, List.getElem?_cons_succ, List.getElem?_cons_zero]; rfl)
  focus kernel_rfl
  focus kernel_rfl
  focus kernel_rfl
  focus kernel_rfl
  focus exact (fun _ _ _ h => h)
  refine Or.inl ⟨?_, ?_⟩
  focus (go_simp; done)
  focus (intro w hSw; have m8 := hSw.1.cell 8; unfold rnC at m8; have l1 := hSw.1.lt; have o1 := hSw.2.2.1.cell 1; have o2 := hSw.2.2.1.cell 2; have o3 := hSw.2.2.1.cell 3; have o4 := hSw.2.2.1.cell 4; have va := vs_cell hSw.2.1 (i := a) (by omega); rw [HXa.out] at va; (first | (go_simp; done) | (go_simp; with_reducible rfl)))
  focus assumption
  (try simp only [Act.put, List.setIfInBounds_toArray, List.set_cons_zero, List.set_cons_succ])
  refine' wpAnyL_take (i := 13) (v := _) ?_ ?_ ?_ ?_ ?_ ?_ ?_ ?_ ?_
  rotate_left 2
  focus (simp only [List.getElem?_toArray, List.getElem?_cons_succ, List.getElem?_cons_zero]; rfl)
  focus kernel_rfl
  focus kernel_rfl
  focus kernel_rfl
  focus kernel_rfl
  focus exact (fun _ _ _ h => h)
  refine Or.inl ⟨?_, ?_⟩
  focus (go_simp; done)
  focus (intro w hSw; have m8 := hSw.1.cell 8; unfold rnC at m8; have l1 := hSw.1.lt; have o1 := hSw.2.2.1.cell 1; have o2 := hSw.2.2.1.cell 2; have o3 := hSw.2.2.1.cell 3; have o4 := hSw.2.2.1.cell 4; have va := vs_cell hSw.2.1 (i := a) (by omega); rw [HXa.out] at va; (first | (go_simp; done) | (go_simp; with_reducible rfl)))
  focus assumption
  (try simp only [Act.put, List.setIfInBounds_toArray, List.set_cons_zero, List.set_cons_succ])
  refine' wpAnyL_take (i := 14) (v := _) ?_ ?_ ?_ ?_ ?_ ?_ ?_ ?_ ?_
  rotate_left 2
  focus (simp only [List.getElem?_toArray, List.getElem?_cons_succ, List.getElem?_cons_zero]; rfl)
  focus kernel_rfl
  focus kernel_rfl
  focus kernel_rfl
  focus kernel_rfl
  focus exact (fun _ _ _ h => h)
  refine Or.inl ⟨?_, ?_⟩
  focus (go_simp; done)
  focus (intro w hSw; have m8 := hSw.1.cell 8; unfold rnC at m8; have l1 := hSw.1.lt; have o1 := hSw.2.2.1.cell 1; have o2 := hSw.2.2.1.cell 2; have o3 := hSw.2.2.1.cell 3; have o4 := hSw.2.2.1.cell 4; have va := vs_cell hSw.2.1 (i := a) (by omega); rw [HXa.out] at va; (first | (go_simp; done) | (go_simp; with_reducible rfl)))
  focus assumption
  (try simp only [Act.put, List.setIfInBounds_toArray, List.set_cons_zero, List.set_cons_succ])
  refine' wpAnyL_last ?_ ?_ (fun K hK => ?_)
  rotate_left
  focus kernel_rfl
  focus (simp only [List.getElem?_toArray, List.getElem?_cons_succ, List.getElem?_cons_zero]; rfl)
  have r0 := vs_cell hHeld.2.1 (i := d) (by omega)
  have f0 := hHeld.2.1.frozen d
  have hlo := hHeld.2.1.lt
  go_simp
  refine hK.out _ _ ?_
  clear hK K
  (try simp only [Act.put, List.setIfInBounds_toArray, List.set_cons_zero, List.set_cons_succ])
  refine wpAny_done (by kernel_rfl) ?_ _
  have HR1 := Lib.hid (show Rn lo Rb Vb x va us hv { s with vs := s.vs.set d xa } steps left (W0.setCell ⟨Vb, d, none⟩ (.int .i64 xa)).drew from (HB.out.1.var d xa).below (below_drewN _ _ 1))
  have HM1 := Lib.hid (show Mv Rb Vb us w (W0.setCell ⟨Vb, d, none⟩ (.int .i64 xa)).drew from (HB.out.2.2.put (p := ⟨Vb, d, none⟩) (.inr (.inl rfl)) (.int .i64 xa)).trans (Mv.of_below (below_drewN _ _ 1)))
  generalize hW : (World.setCell W0 ⟨Vb, d, none⟩ (Value.int .i64 xa)).drew = W1 at HR1 HM1 ⊢
  clear hW r0 f0 hlo HB
  clear hHeld
  have c := HR1.out.rb.cell 11
  unfold rnC at c
  have f := HR1.out.rb.frozen 11
  have hlt := HR1.out.rb.lt
  have HN := Lib.hid (HR1.out.stepsTo (steps + 1))
  have HM2 := Lib.hid (HM1.out.put (p := ⟨Rb, 11, none⟩) (.inl rfl) (.int .i64 (steps + 1)))
  clear HR1 HM1
  go_wp2
  go_ret
  refine ⟨rfl, ?_, HM2.out⟩
  have hN := HN.out
  unfold Tr.act
  simp only [show ¬ (2 : Int) = 1 by decide, if_false, if_pos, Int.toNat_natCast, Tr.at_, HXa.out]
  exact hN
set_option maxHeartbeats 4000000 in
set_option maxRecDepth 100000 in
theorem rdo_3 (lo Rb Vb : Nat) (x : G8) (va : Value) (us : List Value) (hv : Value) (s : Tr.St) (steps left : Int) (hs : 0 ≤ steps ∧ steps ≤ 100000) (d a b i : Int) (V A : Nat) (hw : Tr.Wf V A s) (ho : Tr.Ok V A ⟨3, d, a, b, i⟩) (w : World) (h : Rn lo Rb Vb x va us hv s steps left w) :
    Calls Try.prog 28 #[.pointer (some ⟨Rb, 0, none⟩), .agg #[.int .i64 3, .int .i64 d, .int .i64 a, .int .i64 b, .int .i64 i]] w (DoPost lo Rb Vb x va us hv (Tr.act s ⟨3, d, a, b, i⟩) steps left w) := by
  have hvl := hw.vl
  have est : wrap64 (steps + 1) = steps + 1 := IntWalk.wrap64_in _ (by omega)
  have HW := Lib.hid hw
  have HO := Lib.hid ho
  have hd := ho.dst (by show (3 : Int) ≤ 4; decide)
  have ha := ho.a (by show (2 : Int) ≤ 3; decide)
  have hb := ho.b (.inl rfl)
  simp only at hd ha hb
  obtain ⟨d, rfl⟩ : ∃ n : Nat, d = (n : Int) := ⟨d.toNat, by omega⟩
  obtain ⟨a, rfl⟩ : ∃ n : Nat, a = (n : Int) := ⟨a.toNat, by omega⟩
  obtain ⟨b, rfl⟩ : ∃ n : Nat, b = (n : Int) := ⟨b.toNat, by omega⟩
  have hd1 : d < s.vs.length := by omega
  have hd2 : (d : Int) < s.vs.length := by omega
  have hd3 : (0 : Int) ≤ (d : Int) := by omega
  have ha1 : a < s.vs.length := by omega
  have ha2 : (a : Int) < s.vs.length := by omega
  have ha3 : (0 : Int) ≤ (a : Int) := by omega
  have hb1 : b < s.vs.length := by omega
  have hb2 : (b : Int) < s.vs.length := by omega
  have hb3 : (0 : Int) ≤ (b : Int) := by omega
  have HB := Lib.hid (show Rn lo Rb Vb x va us hv s steps left (w.alloc (.cells #[.int .i64 3, .int .i64 (d : Int), .int .i64 (a : Int), .int .i64 (b : Int), .int .i64 i] 27)) ∧ Bk (w.alloc (.cells #[.int .i64 3, .int .i64 (d : Int), .int .i64 (a : Int), .int .i64 (b : Int), .int .i64 i] 27)) w.heap.size 27 #[.int .i64 3, .int .i64 (d : Int), .int .i64 (a : Int), .int .i64 (b : Int), .int .i64 i] ∧ Mv Rb Vb us w (w.alloc (.cells #[.int .i64 3, .int .i64 (d : Int), .int .i64 (a : Int), .int .i64 (b : Int), .int .i64 i] 27)) from ⟨h.below (bla (Below.refl _ _) _), Bk.new _ _ _, Mv.of_below (bla (Below.refl _ _) _)⟩)
  have HT := Lib.hid (show w.heap.size ≠ Rb ∧ w.heap.size ≠ Vb from ⟨by have := h.rb.lt; omega, by have := h.vb.lt; omega⟩)
  clear h hw ho hs
  go_enter Try.func28, Try.ntmps28
  go_upto_region 7 with fail
  generalize hW : w.alloc (.cells #[.int .i64 3, .int .i64 (d : Int), .int .i64 (a : Int), .int .i64 (b : Int), .int .i64 i] 27) = W0 at HB ⊢
  clear hW
  obtain ⟨xa, hxa⟩ : ∃ z, s.vs.getD a 0 = z := ⟨_, rfl⟩
  have HXa := Lib.hid hxa
  clear hxa
  obtain ⟨xb, hxb⟩ : ∃ z, s.vs.getD b 0 = z := ⟨_, rfl⟩
  have HXb := Lib.hid hxb
  clear hxb
  refine wp_region_last (S := (fun u : World => Bk u Rb 67 (rnC x Vb s.vs.length va hv steps left) ∧ Bk u Vb 3 (s.vs.map (Value.int .i64)).toArray ∧ Bk u w.heap.size 27 #[.int .i64 3, .int .i64 (d : Int), .int .i64 (a : Int), .int .i64 (b : Int), .int .i64 i] ∧ True)) 29 (by kernel_rfl) ?_ (fun hHeld => ?_)
  · exact ⟨HB.out.1.rb.below (below_drewN _ _ 1), HB.out.1.vb.below (below_drewN _ _ 1), HB.out.2.1.below (below_drewN _ _ 1), trivial⟩
  refine' wpAnyL_take (i := 0) (v := _) ?_ ?_ ?_ ?_ ?_ ?_ ?_ ?_ ?_
  rotate_left 2
  focus (simp only [List.getElem?_toArray, List.getElem?_cons_succ, List.getElem?_cons_zero]; rfl)
  focus kernel_rfl
  focus kernel_rfl
  focus kernel_rfl
  focus kernel_rfl
  focus exact (fun _ _ _ h => h)
  refine Or.inl ⟨?_, ?_⟩
  focus (go_simp; done)
  focus (intro w hSw; have m8 := hSw.1.cell 8; unfold rnC at m8; have l1 := hSw.1.lt; have o1 := hSw.2.2.1.cell 1; have o2 := hSw.2.2.1.cell 2; have o3 := hSw.2.2.1.cell 3; have o4 := hSw.2.2.1.cell 4; have va := vs_cell hSw.2.1 (i := a) (by omega); rw [HXa.out] at va; have vb := vs_cell hSw.2.1 (i := b) (by omega); rw [HXb.out] at vb; (first | (go_simp; done) | (go_simp; with_reducible rfl)))
  focus assumption
  (try simp only [Act.put, List.setIfInBounds_toArray, List.set_cons_zero, List.set_cons_succ])
  refine' wpAnyL_take (i := 1) (v := _) ?_ ?_ ?_ ?_ ?_ ?_ ?_ ?_ ?_
  rotate_left 2
  focus (simp only [List.getElem?_toArray, List.getElem?_cons_succ, List.getElem?_cons_zero]; rfl)
  focus kernel_rfl
  focus kernel_rfl
  focus kernel_rfl
  focus kernel_rfl
  focus exact (fun _ _ _ h => h)
  refine Or.inl ⟨?_, ?_⟩
  focus (go_simp; done)
  focus (intro w hSw; have m8 := hSw.1.cell 8; unfold rnC at m8; have l1 := hSw.1.lt; have o1 := hSw.2.2.1.cell 1; have o2 := hSw.2.2.1.cell 2; have o3 := hSw.2.2.1.cell 3; have o4 := hSw.2.2.1.cell 4; have va := vs_cell hSw.2.1 (i := a) (by omega); rw [HXa.out] at va; have vb := vs_cell hSw.2.1 (i := b) (by omega); rw [HXb.out] at vb; (first | (go_simp; done) | (go_simp; with_reducible rfl)))
  focus assumption
  (try simp only [Act.put, List.setIfInBounds_toArray, List.set_cons_zero, List.set_cons_succ])
  refine' wpAnyL_take (i := 2) (v := _) ?_ ?_ ?_ ?_ ?_ ?_ ?_ ?_ ?_
  rotate_left 2
  focus (simp only [List.getElem?_toArray, List.getElem?_cons_succ, List.getElem?_cons_zero]; rfl)
  focus kernel_rfl
  focus kernel_rfl
  focus kernel_rfl
  focus kernel_rfl
  focus exact (fun _ _ _ h => h)
  refine Or.inl ⟨?_, ?_⟩
  focus (go_simp; done)
  focus (intro w hSw; have m8 := hSw.1.cell 8; unfold rnC at m8; have l1 := hSw.1.lt; have o1 := hSw.2.2.1.cell 1; have o2 := hSw.2.2.1.cell 2; have o3 := hSw.2.2.1.cell 3; have o4 := hSw.2.2.1.cell 4; have va := vs_cell hSw.2.1 (i := a) (by omega); rw [HXa.out] at va; have vb := vs_cell hSw.2.1 (i := b) (by omega); rw [HXb.out] at vb; (first | (go_simp; done) | (go_simp; with_reducible rfl)))
  focus assumption
  (try simp only [Act.put, List.setIfInBounds_toArray, List.set_cons_zero, List.set_cons_succ])
  refine' wpAnyL_take (i := 3) (v := _) ?_ ?_ ?_ ?_ ?_ ?_ ?_ ?_ ?_
  rotate_left 2
  focus (simp only [List.getElem?_toArray, List.getElem?_cons_succ, List.getElem?_cons_zero]; rfl)
  focus kernel_rfl
  focus kernel_rfl
  focus kernel_rfl
  focus kernel_rfl
  focus exact (fun _ _ _ h => h)
  refine Or.inl ⟨?_, ?_⟩
  focus (go_simp; done)
  focus (intro w hSw; have m8 := hSw.1.cell 8; unfold rnC at m8; have l1 := hSw.1.lt; have o1 := hSw.2.2.1.cell 1; have o2 := hSw.2.2.1.cell 2; have o3 := hSw.2.2.1.cell 3; have o4 := hSw.2.2.1.cell 4; have va := vs_cell hSw.2.1 (i := a) (by omega); rw [HXa.out] at va; have vb := vs_cell hSw.2.1 (i := b) (by omega); rw [HXb.out] at vb; (first | (go_simp; done) | (go_simp; with_reducible rfl)))
  focus assumption
  (try simp only [Act.put, List.setIfInBounds_toArray, List.set_cons_zero, List.set_cons_succ])
  refine' wpAnyL_take (i := 4) (v := _) ?_ ?_ ?_ ?_ ?_ ?_ ?_ ?_ ?_
  rotate_left 2
  focus (simp only [List.getElem?_toArray, List.getElem?_cons_succ, List.getElem?_cons_zero]; rfl)
  focus kernel_rfl
  focus kernel_rfl
  focus kernel_rfl
  focus kernel_rfl
  focus exact (fun _ _ _ h => h)
  refine Or.inl ⟨?_, ?_⟩
  focus (go_simp; done)
  focus (intro w hSw; have m8 := hSw.1.cell 8; unfold rnC at m8; have l1 := hSw.1.lt; have o1 := hSw.2.2.1.cell 1; have o2 := hSw.2.2.1.cell 2; have o3 := hSw.2.2.1.cell 3; have o4 := hSw.2.2.1.cell 4; have va := vs_cell hSw.2.1 (i := a) (by omega); rw [HXa.out] at va; have vb := vs_cell hSw.2.1 (i := b) (by omega); rw [HXb.out] at vb; (first | (go_simp; done) | (go_simp; with_reducible rfl)))
  focus assumption
  (try simp only [Act.put, List.setIfInBounds_toArray, List.set_cons_zero, List.set_cons_succ])
  refine' wpAnyL_take (i := 5) (v := _) ?_ ?_ ?_ ?_ ?_ ?_ ?_ ?_ ?_
  rotate_left 2
  focus (simp only [List.getElem?_toArray, List.getElem?_cons_succ, List.getElem?_cons_zero]; rfl)
  focus kernel_rfl
  focus kernel_rfl
  focus kernel_rfl
  focus kernel_rfl
  focus exact (fun _ _ _ h => h)
  refine Or.inl ⟨?_, ?_⟩
  focus (go_simp; done)
  focus (intro w hSw; have m8 := hSw.1.cell 8; unfold rnC at m8; have l1 := hSw.1.lt; have o1 := hSw.2.2.1.cell 1; have o2 := hSw.2.2.1.cell 2; have o3 := hSw.2.2.1.cell 3; have o4 := hSw.2.2.1.cell 4; have va := vs_cell hSw.2.1 (i := a) (by omega); rw [HXa.out] at va; have vb := vs_cell hSw.2.1 (i := b) (by omega); rw [HXb.out] at vb; (first | (go_simp; done) | (go_simp; with_reducible rfl)))
  focus assumption
  (try simp only [Act.put, List.setIfInBounds_toArray, List.set_cons_zero, List.set_cons_succ])
  refine' wpAnyL_take (i := 6) (v := _) ?_ ?_ ?_ ?_ ?_ ?_ ?_ ?_ ?_
  rotate_left 2
  focus (simp only [List.getElem?_toArray, List.getElem?_cons_succ, List.getElem?_cons_zero]; rfl)
  focus kernel_rfl
  focus kernel_rfl
  focus kernel_rfl
  focus kernel_rfl
  focus exact (fun _ _ _ h => h)
  refine Or.inl ⟨?_, ?_⟩
  focus (go_simp; done)
  focus (intro w hSw; have m8 := hSw.1.cell 8; unfold rnC at m8; have l1 := hSw.1.lt; have o1 := hSw.2.2.1.cell 1; have o2 := hSw.2.2.1.cell 2; have o3 := hSw.2.2.1.cell 3; have o4 := hSw.2.2.1.cell 4; have va := vs_cell hSw.2.1 (i := a) (by omega); rw [HXa.out] at va; have vb := vs_cell hSw.2.1 (i := b) (by omega); rw [HXb.out] at vb; (first | (go_simp; done) | (go_simp; with_reducible rfl)))
  focus assumption
  (try simp only [Act.put, List.setIfInBounds_toArray, List.set_cons_zero, List.set_cons_succ])
  refine' wpAnyL_take (i := 7) (v := _) ?_ ?_ ?_ ?_ ?_ ?_ ?_ ?_ ?_
  rotate_left 2
  focus (simp only [List.getElem?_toArray, List.getElem?_cons_succ, List.getElem?_cons_zero]; rfl)
  focus kernel_rfl
  focus kernel_rfl
  focus kernel_rfl
  focus kernel_rfl
  focus exact (fun _ _ _ h => h)
  refine Or.inl ⟨?_, ?_⟩
  focus (go_simp; done)
  focus (intro w hSw; have m8 := hSw.1.cell 8; unfold rnC at m8; have l1 := hSw.1.lt; have o1 := hSw.2.2.1.cell 1; have o2 := hSw.2.2.1.cell 2; have o3 := hSw.2.2.1.cell 3; have o4 := hSw.2.2.1.cell 4; have va := vs_cell hSw.2.1 (i := a) (by omega); rw [HXa.out] at va; have vb := vs_cell hSw.2.1 (i := b) (by omega); rw [HXb.out] at vb; (first | (go_simp; done) | (go_simp; with_reducible rfl)))
  focus assumption
  (try simp only [Act.put, List.setIfInBounds_toArray, List.set_cons_zero, List.set_cons_succ])
  refine' wpAnyL_take (i := 8) (v := _) ?_ ?_ ?_ ?_ ?_ ?_ ?_ ?_ ?_
  rotate_left 2
  focus (simp only [List.getElem?_toArray, List.getElem?_cons_succ, List.getElem?_cons_zero]; rfl)
  focus kernel_rfl
  focus kernel_rfl
  focus kernel_rfl
  focus kernel_rfl
  focus exact (fun _ _ _ h => h)
  refine Or.inl ⟨?_, ?_⟩
  focus (go_simp; done)
  focus (intro w hSw; have m8 := hSw.1.cell 8; unfold rnC at m8; have l1 := hSw.1.lt; have o1 := hSw.2.2.1.cell 1; have o2 := hSw.2.2.1.cell 2; have o3 := hSw.2.2.1.cell 3; have o4 := hSw.2.2.1.cell 4; have va := vs_cell hSw.2.1 (i := a) (by omega); rw [HXa.out] at va; have vb := vs_cell hSw.2.1 (i := b) (by omega); rw [HXb.out] at vb; (first | (go_simp; done) | (go_simp; with_reducible rfl)))
  focus assumption
  (try simp only [Act.put, List.setIfInBounds_toArray, List.set_cons_zero, List.set_cons_succ])
  refine' wpAnyL_take (i := 9) (v := _) ?_ ?_ ?_ ?_ ?_ ?_ ?_ ?_ ?_
  rotate_left 2
  focus (simp only [List.getElem?_toArray, List.getElem?_cons_succ, List.getElem?_cons_zero]; rfl)
  focus kernel_rfl
  focus kernel_rfl
  focus kernel_rfl
  focus kernel_rfl
  focus exact (fun _ _ _ h => h)
  refine Or.inl ⟨?_, ?_⟩
  focus (go_simp; done)
  focus (intro w hSw; have m8 := hSw.1.cell 8; unfold rnC at m8; have l1 := hSw.1.lt; have o1 := hSw.2.2.1.cell 1; have o2 := hSw.2.2.1.cell 2; have o3 := hSw.2.2.1.cell 3; have o4 := hSw.2.2.1.cell 4; have va := vs_cell hSw.2.1 (i := a) (by omega); rw [HXa.out] at va; have vb := vs_cell hSw.2.1 (i := b) (by omega); rw [HXb.out] at vb; (first | (go_simp; done) | (go_simp; with_reducible rfl)))
  focus assumption
  (try simp only [Act.put, List.setIfInBounds_toArray, List.set_cons_zero, List.set_cons_succ])
  refine' wpAnyL_take (i := 10) (v := _) ?_ ?_ ?_ ?_ ?_ ?_ ?_ ?_ ?_
  rotate_left 2
  focus (simp only [List.getElem?_toArray, List.getElem?_cons_succ, List.getElem?_cons_zero]; rfl)
  focus kernel_rfl
  focus kernel_rfl
  focus kernel_rfl
  focus kernel_rfl
  focus exact (fun _ _ _ h => h)
  refine Or.inl ⟨?_, ?_⟩
  focus (go_simp; done)
  focus (intro w hSw; have m8 := hSw.1.cell 8; unfold rnC at m8; have l1 := hSw.1.lt; have o1 := hSw.2.2.1.cell 1; have o2 := hSw.2.2.1.cell 2; have o3 := hSw.2.2.1.cell 3; have o4 := hSw.2.2.1.cell 4; have va := vs_cell hSw.2.1 (i := a) (by omega); rw [HXa.out] at va; have vb := vs_cell hSw.2.1 (i := b) (by omega); rw [HXb.out] at vb; (first | (go_simp; done) | (go_simp; with_reducible rfl)))
  focus assumption
  (try simp only [Act.put, List.setIfInBounds_toArray, List.set_cons_zero, List.set_cons_succ])
  refine' wpAnyL_take (i := 11) (v := _) ?_ ?_ ?_ ?_ ?_ ?_ ?_ ?_ ?_
  rotate_left 2
  focus (simp only [List.getElem?_toArray, List.getElem?_cons_succ, List.getElem?_cons_zero]; rfl)
  focus kernel_rfl
  focus kernel_rfl
  focus kernel_rfl
  focus kernel_rfl
  focus exact (fun _ _ _ h => h)
  refine Or.inl ⟨?_, ?_⟩
  focus (go_simp; done)
  focus (intro w hSw; have m8 := hSw.1.cell 8; unfold rnC at m8; have l1 := hSw.1.lt; have o1 := hSw.2.2.1.cell 1; have o2 := hSw.2.2.1.cell 2; have o3 := hSw.2.2.1.cell 3; have o4 := hSw.2.2.1.cell 4; have va := vs_cell hSw.2.1 (i := a) (by omega); rw [HXa.out] at va; have vb := vs_cell hSw.2.1 (i := b) (by omega); rw [HXb.out] at vb; (first | (go_simp; done) | (go_simp; with_reducible rfl)))
  focus assumption
  (try simp only [Act.put, List.setIfInBounds_toArray, List.set_cons_zero, List.set_cons_succ])
  refine' wpAnyL_take (i := 12) (v := _) ?_ ?_ ?_ ?_ ?_ ?_ ?_ ?_ ?_
  rotate_left 2
  focus (simp only [List.getElem?_toArray, List.getElem?_cons_succ, List.getElem?_cons_zero]; rfl)
  focus kernel_rfl
  focus kernel_rfl
  focus kernel_rfl
  focus kernel_rfl
  focus exact (fun _ _ _ h => h)
  refine Or.inl ⟨?_, ?_⟩
  focus (go_simp; done)
  focus (intro w hSw; have m8 := hSw.1.cell 8; unfold rnC at m8; have l1 := hSw.1.lt; have o1 := hSw.2.2.1.cell 1; have o2 := hSw.2.2.1.cell 2; have o3 := hSw.2.2.1.cell 3; have o4 := hSw.2.2.1.cell 4; have va := vs_cell hSw.2.1 (i := a) (by omega); rw [HXa.out] at va; have vb := vs_cell hSw.2.1 (i := b) (by omega); rw [HXb.out] at vb; (first | (go_simp; done) | (go_simp; with_reducible rfl)))
  focus assumption
  (try simp only [Act.put, List.setIfInBounds_toArray, List.set_cons_zero, List.set_cons_succ])
  refine' wpAnyL_take (i := 13) (v := _) ?_ ?_ ?_ ?_ ?_ ?_ ?_ ?_ ?_
  rotate_left 2
  focus (simp only [List.getElem?_toArray, List.getElem?_cons_succ, List.getElem?_cons_zero]; rfl)
  focus kernel_rfl
  focus kernel_rfl
  focus kernel_rfl
  focus kernel_rfl
  focus exact (fun _ _ _ h => h)
  refine Or.inl ⟨?_, ?_⟩
  focus (go_simp; done)
  focus (intro w hSw; have m8 := hSw.1.cell 8; unfold rnC at m8; have l1 := hSw.1.lt; have o1 := hSw.2.2.1.cell 1; have o2 := hSw.2.2.1.cell 2; have o3 := hSw.2.2.1.cell 3; have o4 := hSw.2.2.1.cell 4; have va := vs_cell hSw.2.1 (i := a) (by omega); rw [HXa.out] at va; have vb := vs_cell hSw.2.1 (i := b) (by omega); rw [HXb.out] at vb; (first | (go_simp; done) | (go_simp; with_reducible rfl)))
  focus assumption
  (try simp only [Act.put, List.setIfInBounds_toArray, List.set_cons_zero, List.set_cons_succ])
  refine' wpAnyL_take (i := 14) (v := _) ?_ ?_ ?_ ?_ ?_ ?_ ?_ ?_ ?_
  rotate_left 2
  focus (simp only [List.getElem?_toArray, List.getElem?_cons_succ, List.getElem?_cons_zero]; rfl)
  focus kernel_rfl
  focus kernel_rfl
  focus kernel_rfl
  focus kernel_rfl
  focus exact (fun _ _ _ h => h)
  refine Or.inl ⟨?_, ?_⟩
  focus (go_simp; done)
  focus (intro w hSw; have m8 := hSw.1.cell 8; unfold rnC at m8; have l1 := hSw.1.lt; have o1 := hSw.2.2.1.cell 1; have o2 := hSw.2.2.1.cell 2; have o3 := hSw.2.2.1.cell 3; have o4 := hSw.2.2.1.cell 4; have va := vs_cell hSw.2.1 (i := a) (by omega); rw [HXa.out] at va; have vb := vs_cell hSw.2.1 (i := b) (by omega); rw [HXb.out] at vb; (first | (go_simp; done) | (go_simp; with_reducible rfl)))
  focus assumption
  (try simp only [Act.put, List.setIfInBounds_toArray, List.set_cons_zero, List.set_cons_succ])
  refine' wpAnyL_take (i := 15) (v := _) ?_ ?_ ?_ ?_ ?_ ?_ ?_ ?_ ?_
  rotate_left 2
  focus (simp only [List.getElem?_toArray, List.getElem?_cons_succ, List.getElem?_cons_zero]; rfl)
  focus kernel_rfl
  focus kernel_rfl
  focus kernel_rfl
  focus kernel_rfl
  focus exact (fun _ _ _ h => h)
  refine Or.inl ⟨?_, ?_⟩
  focus (go_simp; done)
  focus (intro w hSw; have m8 := hSw.1.cell 8; unfold rnC at m8; have l1 := hSw.1.lt; have o1 := hSw.2.2.1.cell 1; have o2 := hSw.2.2.1.cell 2; have o3 := hSw.2.2.1.cell 3; have o4 := hSw.2.2.1.cell 4; have va := vs_cell hSw.2.1 (i := a) (by omega); rw [HXa.out] at va; have vb := vs_cell hSw.2.1 (i := b) (by omega); rw [HXb.out] at vb; (first | (go_simp; done) | (go_simp; with_reducible rfl)))
  focus assumption
  (try simp only [Act.put, List.setIfInBounds_toArray, List.set_cons_zero, List.set_cons_succ])
  refine' wpAnyL_take (i := 16) (v := _) ?_ ?_ ?_ ?_ ?_ ?_ ?_ ?_ ?_
  rotate_left 2
  focus (simp only [List.getElem?_toArray, List.getElem?_cons_succ, List.getElem?_cons_zero]; rfl)
  focus kernel_rfl
  focus kernel_rfl
  focus kernel_rfl
  focus kernel_rfl
  focus exact (fun _ _ _ h => h)
  refine Or.inl ⟨?_, ?_⟩
  focus (go_simp; done)
  focus (intro w hSw; have m8 := hSw.1.cell 8; unfold rnC at m8; have l1 := hSw.1.lt; have o1 := hSw.2.2.1.cell 1; have o2 := hSw.2.2.1.cell 2; have o3 := hSw.2.2.1.cell 3; have o4 := hSw.2.2.1.cell 4; have va := vs_cell hSw.2.1 (i := a) (by omega); rw [HXa.out] at va; have vb := vs_cell hSw.2.1 (i := b) (by omega); rw [HXb.out] at vb; (first | (go_simp; done) | (go_simp; with_reducible rfl)))
  focus assumption
  (try simp only [Act.put, List.setIfInBounds_toArray, List.set_cons_zero, List.set_cons_succ])
  refine' wpAnyL_take (i := 17) (v := _) ?_ ?_ ?_ ?_ ?_ ?_ ?_ ?_ ?_
  rotate_left 2
  focus (simp only [List.getElem?_toArray, List.getElem?_cons_succ, List.getElem?_cons_zero]; rfl)
  focus kernel_rfl
  focus kernel_rfl
  focus kernel_rfl
  focus kernel_rfl
  focus exact (fun _ _ _ h => h)
  refine Or.inl ⟨?_, ?_⟩
  focus (go_simp; done)
  focus (intro w hSw; have m8 := hSw.1.cell 8; unfold rnC at m8; have l1 := hSw.1.lt; have o1 := hSw.2.2.1.cell 1; have o2 := hSw.2.2.1.cell 2; have o3 := hSw.2.2.1.cell 3; have o4 := hSw.2.2.1.cell 4; have va := vs_cell hSw.2.1 (i := a) (by omega); rw [HXa.out] at va; have vb := vs_cell hSw.2.1 (i := b) (by omega); rw [HXb.out] at vb; (first | (go_simp; done) | (go_simp; with_reducible rfl)))
  focus assumption
  (try simp only [Act.put, List.setIfInBounds_toArray, List.set_cons_zero, List.set_cons_succ])
  refine' wpAnyL_take (i := 18) (v := _) ?_ ?_ ?_ ?_ ?_ ?_ ?_ ?_ ?_
  rotate_left 2
  focus (simp only [List.getElem?_toArray, List.getElem?_cons_succ, List.getElem?_cons_zero]; rfl)
  focus kernel_rfl
  focus kernel_rfl
  focus kernel_rfl
  focus kernel_rfl
  focus exact (fun _ _ _ h => h)
  refine Or.inl ⟨?_, ?_⟩
  focus (go_simp; done)
  focus (intro w hSw; have m8 := hSw.1.cell 8; unfold rnC at m8; have l1 := hSw.1.lt; have o1 := hSw.2.2.1.cell 1; have o2 := hSw.2.2.1.cell 2; have o3 := hSw.2.2.1.cell 3; have o4 := hSw.2.2.1.cell 4; have va := vs_cell hSw.2.1 (i := a) (by omega); rw [HXa.out] at va; have vb := vs_cell hSw.2.1 (i := b) (by omega); rw [HXb.out] at vb; (first | (go_simp; done) | (go_simp; with_reducible rfl)))
  focus assumption
  (try simp only [Act.put, List.setIfInBounds_toArray, List.set_cons_zero, List.set_cons_succ])
  refine' wpAnyL_take (i := 19) (v := _) ?_ ?_ ?_ ?_ ?_ ?_ ?_ ?_ ?_
  rotate_left 2
  focus (simp only [List.getElem?_toArray, List.getElem?_cons_succ, List.getElem?_cons_zero]; rfl)
  focus kernel_rfl
  focus kernel_rfl
  focus kernel_rfl
  focus kernel_rfl
  focus exact (fun _ _ _ h => h)
  refine Or.inl ⟨?_, ?_⟩
  focus (go_simp; done)
  focus (intro w hSw; have m8 := hSw.1.cell 8; unfold rnC at m8; have l1 := hSw.1.lt; have o1 := hSw.2.2.1.cell 1; have o2 := hSw.2.2.1.cell 2; have o3 := hSw.2.2.1.cell 3; have o4 := hSw.2.2.1.cell 4; have va := vs_cell hSw.2.1 (i := a) (by omega); rw [HXa.out] at va; have vb := vs_cell hSw.2.1 (i := b) (by omega); rw [HXb.out] at vb; (first | (go_simp; done) | (go_simp; with_reducible rfl)))
  focus assumption
  (try simp only [Act.put, List.setIfInBounds_toArray, List.set_cons_zero, List.set_cons_succ])
  refine' wpAnyL_take (i := 20) (v := _) ?_ ?_ ?_ ?_ ?_ ?_ ?_ ?_ ?_
  rotate_left 2
  focus (simp only [List.getElem?_toArray, List.getElem?_cons_succ, List.getElem?_cons_zero]; rfl)
  focus kernel_rfl
  focus kernel_rfl
  focus kernel_rfl
  focus kernel_rfl
  focus exact (fun _ _ _ h => h)
  refine Or.inl ⟨?_, ?_⟩
  focus (go_simp; done)
  focus (intro w hSw; have m8 := hSw.1.cell 8; unfold rnC at m8; have l1 := hSw.1.lt; have o1 := hSw.2.2.1.cell 1; have o2 := hSw.2.2.1.cell 2; have o3 := hSw.2.2.1.cell 3; have o4 := hSw.2.2.1.cell 4; have va := vs_cell hSw.2.1 (i := a) (by omega); rw [HXa.out] at va; have vb := vs_cell hSw.2.1 (i := b) (by omega); rw [HXb.out] at vb; (first | (go_simp; done) | (go_simp; with_reducible rfl)))
  focus assumption
  (try simp only [Act.put, List.setIfInBounds_toArray, List.set_cons_zero, List.set_cons_succ])
  refine' wpAnyL_take (i := 21) (v := _) ?_ ?_ ?_ ?_ ?_ ?_ ?_ ?_ ?_
  rotate_left 2
  focus (simp only [List.getElem?_toArray, List.getElem?_cons_succ, List.getElem?_cons_zero]; rfl)
  focus kernel_rfl
  focus kernel_rfl
  focus kernel_rfl
  focus kernel_rfl
  focus exact (fun _ _ _ h => h)
  refine Or.inl ⟨?_, ?_⟩
  focus (go_simp; done)
  focus (intro w hSw; have m8 := hSw.1.cell 8; unfold rnC at m8; have l1 := hSw.1.lt; have o1 := hSw.2.2.1.cell 1; have o2 := hSw.2.2.1.cell 2; have o3 := hSw.2.2.1.cell 3; have o4 := hSw.2.2.1.cell 4; have va := vs_cell hSw.2.1 (i := a) (by omega); rw [HXa.out] at va; have vb := vs_cell hSw.2.1 (i := b) (by omega); rw [HXb.out] at vb; (first | (go_simp; done) | (go_simp; with_reducible rfl)))
  focus assumption
  (try simp only [Act.put, List.setIfInBounds_toArray, List.set_cons_zero, List.set_cons_succ])
  refine' wpAnyL_take (i := 22) (v := _) ?_ ?_ ?_ ?_ ?_ ?_ ?_ ?_ ?_
  rotate_left 2
  focus (simp only [List.getElem?_toArray, List.getElem?_cons_succ, List.getElem?_cons_zero]; rfl)
  focus kernel_rfl
  focus kernel_rfl
  focus kernel_rfl
  focus kernel_rfl
  focus exact (fun _ _ _ h => h)
  refine Or.inl ⟨?_, ?_⟩
  focus (go_simp; done)
  focus (intro w hSw; have m8 := hSw.1.cell 8; unfold rnC at m8; have l1 := hSw.1.lt; have o1 := hSw.2.2.1.cell 1; have o2 := hSw.2.2.1.cell 2; have o3 := hSw.2.2.1.cell 3; have o4 := hSw.2.2.1.cell 4; have va := vs_cell hSw.2.1 (i := a) (by omega); rw [HXa.out] at va; have vb := vs_cell hSw.2.1 (i := b) (by omega); rw [HXb.out] at vb; (first | (go_simp; done) | (go_simp; with_reducible rfl)))
  focus assumption
  (try simp only [Act.put, List.setIfInBounds_toArray, List.set_cons_zero, List.set_cons_succ])
  refine' wpAnyL_take (i := 23) (v := _) ?_ ?_ ?_ ?_ ?_ ?_ ?_ ?_ ?_
  rotate_left 2
  focus (simp only [List.getElem?_toArray, List.getElem?_cons_succ, List.getElem?_cons_zero]; rfl)
  focus kernel_rfl
  focus kernel_rfl
  focus kernel_rfl
  focus kernel_rfl
  focus exact (fun _ _ _ h => h)
  refine Or.inl ⟨?_, ?_⟩
  focus (go_simp; done)
  focus (intro w hSw; have m8 := hSw.1.cell 8; unfold rnC at m8; have l1 := hSw.1.lt; have o1 := hSw.2.2.1.cell 1; have o2 := hSw.2.2.1.cell 2; have o3 := hSw.2.2.1.cell 3; have o4 := hSw.2.2.1.cell 4; have va := vs_cell hSw.2.1 (i := a) (by omega); rw [HXa.out] at va; have vb := vs_cell hSw.2.1 (i := b) (by omega); rw [HXb.out] at vb; (first | (go_simp; done) | (go_simp; with_reducible rfl)))
  focus assumption
  (try simp only [Act.put, List.setIfInBounds_toArray, List.set_cons_zero, List.set_cons_succ])
  refine' wpAnyL_one (i := 24) ?_ ?_ ?_ (fun K hK => ?_)
  rotate_left
  focus kernel_rfl
  focus kernel_rfl
  focus (simp only [List.getElem?_toArray, List.getElem?_cons_succ, List.getElem?_cons_zero]; rfl)
  go_simp
  (go_at_call 51; refine (wdDo_any i xa xb _).mono ?_; rintro e u1 ⟨rfl, rfl⟩)
  refine hK.out _ _ (hHeld) (fun hHeld => ?_)
  clear hK K
  (try simp only [Act.put, List.setIfInBounds_toArray, List.set_cons_zero, List.set_cons_succ])
  refine' wpAnyL_take (i := 25) (v := _) ?_ ?_ ?_ ?_ ?_ ?_ ?_ ?_ ?_
  rotate_left 2
  focus (simp only [List.getElem?_toArray, List.getElem?_cons_succ, List.getElem?_cons_zero]; rfl)
  focus kernel_rfl
  focus kernel_rfl
  focus kernel_rfl
  focus kernel_rfl
  focus exact (fun _ _ _ h => h)
  refine Or.inl ⟨?_, ?_⟩
  focus (go_simp; done)
  focus (intro w hSw; have m8 := hSw.1.cell 8; unfold rnC at m8; have l1 := hSw.1.lt; have o1 := hSw.2.2.1.cell 1; have o2 := hSw.2.2.1.cell 2; have o3 := hSw.2.2.1.cell 3; have o4 := hSw.2.2.1.cell 4; have va := vs_cell hSw.2.1 (i := a) (by omega); rw [HXa.out] at va; have vb := vs_cell hSw.2.1 (i := b) (by omega); rw [HXb.out] at vb; (first | (go_simp; done) | (go_simp; with_reducible rfl)))
  focus assumption
  (try simp only [Act.put, List.setIfInBounds_toArray, List.set_cons_zero, List.set_cons_succ])
  refine' wpAnyL_take (i := 26) (v := _) ?_ ?_ ?_ ?_ ?_ ?_ ?_ ?_ ?_
  rotate_left 2
  focus (simp only [List.getElem?_toArray, List.getElem?_cons_succ, List.getElem?_cons_zero]; rfl)
  focus kernel_rfl
  focus kernel_rfl
  focus kernel_rfl
  focus kernel_rfl
  focus exact (fun _ _ _ h => h)
  refine Or.inl ⟨?_, ?_⟩
  focus (go_simp; done)
  focus (intro w hSw; have m8 := hSw.1.cell 8; unfold rnC at m8; have l1 := hSw.1.lt; have o1 := hSw.2.2.1.cell 1; have o2 := hSw.2.2.1.cell 2; have o3 := hSw.2.2.1.cell 3; have o4 := hSw.2.2.1.cell 4; have va := vs_cell hSw.2.1 (i := a) (by omega); rw [HXa.out] at va; have vb := vs_cell hSw.2.1 (i := b) (by omega); rw [HXb.out] at vb; (first | (go_simp; done) | (go_simp; with_reducible rfl)))
  focus assumption
  (try simp only [Act.put, List.setIfInBounds_toArray, List.set_cons_zero, List.set_cons_succ])
  refine' wpAnyL_take (i := 28) (v := _) ?_ ?_ ?_ ?_ ?_ ?_ ?_ ?_ ?_
  rotate_left 2
  focus (simp only [List.getElem?_toArray, List.getElem?_cons_succ, List.getElem?_cons_zero]; rfl)
  focus kernel_rfl
  focus kernel_rfl
  focus kernel_rfl
  focus kernel_rfl
  focus exact (fun _ _ _ h => h)
  refine Or.inl ⟨?_, ?_⟩
  focus (go_simp; done)
  focus (intro w hSw; have m8 := hSw.1.cell 8; unfold rnC at m8; have l1 := hSw.1.lt; have o1 := hSw.2.2.1.cell 1; have o2 := hSw.2.2.1.cell 2; have o3 := hSw.2.2.1.cell 3; have o4 := hSw.2.2.1.cell 4; have va := vs_cell hSw.2.1 (i := a) (by omega); rw [HXa.out] at va; have vb := vs_cell hSw.2.1 (i := b) (by omega); rw [HXb.out] at vb; (first | (go_simp; done) | (go_simp; with_reducible rfl)))
  focus assumption
  (try simp only [Act.put, List.setIfInBounds_toArray, List.set_cons_zero, List.set_cons_succ])
  refine' wpAnyL_two (i := 27) ?hr ?hm ?ho1 ?ho2 (fun K hK => ?h1) (fun K hK => ?h2)
  case ho1 => (simp only [List.getElem?_toArray, List.getElem?_cons_succ, List.getElem?_cons_zero]; rfl)
  case ho2 => (simp only [List.getElem?_toArray, List.getElem?_cons_succ, List.getElem?_cons_zero]; rfl)
  case hr => kernel_rfl
  case hm => kernel_rfl
  case h1 =>
    go_simp
    refine hK.out _ _ hHeld (fun hHeld => ?_)
    clear hK K
    (try simp only [Act.put, List.setIfInBounds_toArray, List.set_cons_zero, List.set_cons_succ])
    refine' wpAnyL_last ?_ ?_ (fun K hK => ?_)
    rotate_left
    focus kernel_rfl
    focus (simp only [List.getElem?_toArray, List.getElem?_cons_succ, List.getElem?_cons_zero]; rfl)
    have r0 := vs_cell hHeld.2.1 (i := d) (by omega)
    have f0 := hHeld.2.1.frozen d
    have hlo := hHeld.2.1.lt
    go_simp
    refine hK.out _ _ ?_
    clear hK K
    (try simp only [Act.put, List.setIfInBounds_toArray, List.set_cons_zero, List.set_cons_succ])
    refine wpAny_done (by kernel_rfl) ?_ _
    have HR1 := Lib.hid (show Rn lo Rb Vb x va us hv { s with vs := s.vs.set d (val i xa xb) } steps left (W0.setCell ⟨Vb, d, none⟩ (.int .i64 (val i xa xb))).drew from (HB.out.1.var d (val i xa xb)).below (below_drewN _ _ 1))
    have HM1 := Lib.hid (show Mv Rb Vb us w (W0.setCell ⟨Vb, d, none⟩ (.int .i64 (val i xa xb))).drew from (HB.out.2.2.put (p := ⟨Vb, d, none⟩) (.inr (.inl rfl)) (.int .i64 (val i xa xb))).trans (Mv.of_below (below_drewN _ _ 1)))
    generalize hW : (World.setCell W0 ⟨Vb, d, none⟩ (Value.int .i64 (val i xa xb))).drew = W1 at HR1 HM1 ⊢
    clear hW r0 f0 hlo HB
    clear hHeld
    have c := HR1.out.rb.cell 11
    unfold rnC at c
    have f := HR1.out.rb.frozen 11
    have hlt := HR1.out.rb.lt
    have HN := Lib.hid (HR1.out.stepsTo (steps + 1))
    have HM2 := Lib.hid (HM1.out.put (p := ⟨Rb, 11, none⟩) (.inl rfl) (.int .i64 (steps + 1)))
    clear HR1 HM1
    go_wp2
    go_ret
    refine ⟨rfl, ?_, HM2.out⟩
    have hN := HN.out
    unfold Tr.act
    simp only [show ¬ (3 : Int) = 1 by decide, show ¬ (3 : Int) = 2 by decide, if_false, if_pos, Int.toNat_natCast, Tr.at_, HXa.out, HXb.out]
    exact hN
  case h2 =>
    have r0 := vs_cell hHeld.2.1 (i := d) (by omega)
    have f0 := hHeld.2.1.frozen d
    have hlo := hHeld.2.1.lt
    go_simp
    refine hK.out _ _ ?_
    clear hK K
    (try simp only [Act.put, List.setIfInBounds_toArray, List.set_cons_zero, List.set_cons_succ])
    refine wpAny_ready (rs := [27]) (by kernel_rfl) (by simp) ?_
    refine' AllReady.cons ?_ (fun K hK => ?_) AllReady.nil
    rotate_left
    focus (simp only [List.getElem?_toArray, List.getElem?_cons_succ, List.getElem?_cons_zero]; rfl)
    go_simp
    refine hK _ _ ?_
    clear hK K
    (try simp only [Act.put, List.setIfInBounds_toArray, List.set_cons_zero, List.set_cons_succ])
    refine wpAny_done (by kernel_rfl) ?_ _
    have HR1 := Lib.hid (show Rn lo Rb Vb x va us hv { s with vs := s.vs.set d (val i xa xb) } steps left (W0.setCell ⟨Vb, d, none⟩ (.int .i64 (val i xa xb))).drew from (HB.out.1.var d (val i xa xb)).below (below_drewN _ _ 1))
    have HM1 := Lib.hid (show Mv Rb Vb us w (W0.setCell ⟨Vb, d, none⟩ (.int .i64 (val i xa xb))).drew from (HB.out.2.2.put (p := ⟨Vb, d, none⟩) (.inr (.inl rfl)) (.int .i64 (val i xa xb))).trans (Mv.of_below (below_drewN _ _ 1)))
    generalize hW : (World.setCell W0 ⟨Vb, d, none⟩ (Value.int .i64 (val i xa xb))).drew = W1 at HR1 HM1 ⊢
    clear hW r0 f0 hlo HB
    clear hHeld
    have c := HR1.out.rb.cell 11
    unfold rnC at c
    have f := HR1.out.rb.frozen 11
    have hlt := HR1.out.rb.lt
    have HN := Lib.hid (HR1.out.stepsTo (steps + 1))
    have HM2 := Lib.hid (HM1.out.put (p := ⟨Rb, 11, none⟩) (.inl rfl) (.int .i64 (steps + 1)))
    clear HR1 HM1
    go_wp2
    go_ret
    refine ⟨rfl, ?_, HM2.out⟩
    have hN := HN.out
    unfold Tr.act
    simp only [show ¬ (3 : Int) = 1 by decide, show ¬ (3 : Int) = 2 by decide, if_false, if_pos, Int.toNat_natCast, Tr.at_, HXa.out, HXb.out]
    exact hN
set_option maxHeartbeats 4000000 in
set_option maxRecDepth 100000 in
theorem rdo_4 (lo Rb Vb : Nat) (x : G8) (va : Value) (us : List Value) (hv : Value) (s : Tr.St) (steps left : Int) (hs : 0 ≤ steps ∧ steps ≤ 100000) (d a b i : Int) (V A : Nat) (hw : Tr.Wf V A s) (ho : Tr.Ok V A ⟨4, d, a, b, i⟩) (w : World) (h : Rn lo Rb Vb x va us hv s steps left w) :
    Calls Try.prog 28 #[.pointer (some ⟨Rb, 0, none⟩), .agg #[.int .i64 4, .int .i64 d, .int .i64 a, .int .i64 b, .int .i64 i]] w (DoPost lo Rb Vb x va us hv (Tr.act s ⟨4, d, a, b, i⟩) steps left w) := by
  have hvl := hw.vl
  have est : wrap64 (steps + 1) = steps + 1 := IntWalk.wrap64_in _ (by omega)
  have HW := Lib.hid hw
  have HO := Lib.hid ho
  have hd := ho.dst (by show (4 : Int) ≤ 4; decide)
  have ha := ho.a (by show (2 : Int) ≤ 4; decide)
  have hi := ho.arr (.inl rfl)
  simp only at hd ha hi
  obtain ⟨d, rfl⟩ : ∃ n : Nat, d = (n : Int) := ⟨d.toNat, by omega⟩
  obtain ⟨a, rfl⟩ : ∃ n : Nat, a = (n : Int) := ⟨a.toNat, by omega⟩
  obtain ⟨i, rfl⟩ : ∃ n : Nat, i = (n : Int) := ⟨i.toNat, by omega⟩
  have hal := hw.al
  have hd1 : d < s.vs.length := by omega
  have hd2 : (d : Int) < s.vs.length := by omega
  have hd3 : (0 : Int) ≤ (d : Int) := by omega
  have ha1 : a < s.vs.length := by omega
  have ha2 : (a : Int) < s.vs.length := by omega
  have ha3 : (0 : Int) ≤ (a : Int) := by omega
  have hi1 : i < s.ars.length := by omega
  have hi2 : (i : Int) < s.ars.length := by omega
  have hi3 : (0 : Int) ≤ (i : Int) := by omega
  obtain ⟨xa, hxa⟩ : ∃ z, s.vs.getD a 0 = z := ⟨_, rfl⟩
  have HXa := Lib.hid hxa
  have HXw := Lib.hid (show Tr.isWd xa by have := hw.at (v := (a : Int)) (by omega) (by omega); unfold Tr.at_ at this; rw [Int.toNat_natCast, hxa] at this; exact this)
  obtain ⟨ar, har⟩ : ∃ z, s.ars.getD i [] = z := ⟨_, rfl⟩
  have HAr := Lib.hid har
  have hmem : ar ∈ s.ars := by have := hw.arr_mem (k := (i : Int)) (by omega) (by omega); unfold Tr.arr at this; rw [Int.toNat_natCast, har] at this; exact this
  have har16 := hw.as _ hmem
  have hrow := h.ar
  obtain ⟨gv, cv, hva⟩ := own_addr hrow.1 (by omega)
  subst hva
  have hul := hrow.len
  have hui : i < us.length := by omega
  have hua : us[i]? = some us[i] := List.getElem?_eq_getElem hui
  have hur := hrow.2.1 i _ hua
  rw [har] at hur
  obtain ⟨ga, ca, hga⟩ := own_addr hur (by omega)
  rw [hga] at hua hur
  have HUa := Lib.hid hua
  have HUr := Lib.hid hur
  obtain ⟨q, hq⟩ : ∃ q : Nat, Tr.plc xa (ar.length : Int) = (q : Int) := ⟨(Tr.plc xa (ar.length : Int)).toNat, by have := (Tr.plc_in (n := xa) (size := (ar.length : Int)) (by omega)).1; omega⟩
  have HQp := Lib.hid hq
  have hq1 : q < ar.length := by have := (Tr.plc_in (n := xa) (size := (ar.length : Int)) (by omega)).2; omega
  have hq2 : (q : Int) < ar.length := by omega
  have hq3 : (0 : Int) ≤ (q : Int) := by omega
  have hix : Tr.ix s ⟨4, (d : Int), (a : Int), b, (i : Int)⟩ = q := by unfold Tr.ix Tr.at_ Tr.arr; simp only [Int.toNat_natCast]; rw [hxa, har, hq, Int.toNat_natCast]
  obtain ⟨xe, hxe⟩ : ∃ z, ar.getD q 0 = z := ⟨_, rfl⟩
  have HXe := Lib.hid hxe
  have HAct := Lib.hid (show Tr.act s ⟨4, (d : Int), (a : Int), b, (i : Int)⟩ = { s with vs := s.vs.set d xe } by unfold Tr.act; simp only [show ¬ (4 : Int) = 1 by decide, show ¬ (4 : Int) = 2 by decide, show ¬ (4 : Int) = 3 by decide, if_false, if_pos, Int.toNat_natCast]; rw [hix]; unfold Tr.arr; rw [Int.toNat_natCast, har, hxe])
  clear hal hxa har hmem hrow hul hui hua hur hga hq hix hxe
  have HB := Lib.hid (show Rn lo Rb Vb x (.slice (some ⟨gv, 0, none⟩) s.ars.length cv) us hv s steps left (w.alloc (.cells #[.int .i64 4, .int .i64 (d : Int), .int .i64 (a : Int), .int .i64 b, .int .i64 (i : Int)] 27)) ∧ Bk (w.alloc (.cells #[.int .i64 4, .int .i64 (d : Int), .int .i64 (a : Int), .int .i64 b, .int .i64 (i : Int)] 27)) w.heap.size 27 #[.int .i64 4, .int .i64 (d : Int), .int .i64 (a : Int), .int .i64 b, .int .i64 (i : Int)] ∧ Mv Rb Vb us w (w.alloc (.cells #[.int .i64 4, .int .i64 (d : Int), .int .i64 (a : Int), .int .i64 b, .int .i64 (i : Int)] 27)) from ⟨h.below (bla (Below.refl _ _) _), Bk.new _ _ _, Mv.of_below (bla (Below.refl _ _) _)⟩)
  have HT := Lib.hid (show w.heap.size ≠ Rb ∧ w.heap.size ≠ Vb from ⟨by have := h.rb.lt; omega, by have := h.vb.lt; omega⟩)
  clear h hw ho hs
  go_enter Try.func28, Try.ntmps28
  go_upto_region 9 with fail
  generalize hW : w.alloc (.cells #[.int .i64 4, .int .i64 (d : Int), .int .i64 (a : Int), .int .i64 b, .int .i64 (i : Int)] 27) = W0 at HB ⊢
  clear hW
  refine wp_region_held_drew (S := (fun u : World => Bk u Rb 67 (rnC x Vb s.vs.length (.slice (some ⟨gv, 0, none⟩) s.ars.length cv) hv steps left) ∧ Bk u w.heap.size 27 #[.int .i64 4, .int .i64 (d : Int), .int .i64 (a : Int), .int .i64 b, .int .i64 (i : Int)] ∧ u.ownsRow lo 32 1 (.slice (some ⟨gv, 0, none⟩) s.ars.length cv) s.ars.length us)) (by kernel_rfl) (⟨HB.out.1.rb.below (below_drewN _ _ 1), HB.out.2.1.below (below_drewN _ _ 1), own_below HB.out.1.ar.1 (below_drewN _ _ 1)⟩) (fun hHeld => ?_)
  refine' wpAnyH_take (i := 0) (v := _) ?_ ?_ ?_ ?_ ?_ ?_ ?_ ?_
  rotate_left 2
  focus (simp only [List.getElem?_toArray, List.getElem?_cons_succ, List.getElem?_cons_zero]; rfl)
  focus kernel_rfl
  focus kernel_rfl
  focus kernel_rfl
  focus exact (fun _ _ _ h => h)
  refine Or.inl ⟨?_, ?_⟩
  focus (go_simp; done)
  focus (intro w hSw; have m9 := hSw.1.cell 9; unfold rnC at m9; have l1 := hSw.1.lt; have o1 := hSw.2.1.cell 1; have o2 := hSw.2.1.cell 2; have o3 := hSw.2.1.cell 3; have o4 := hSw.2.1.cell 4; have va := own_val hSw.2.2 HUa.out; (first | (go_simp; done) | (go_simp; with_reducible rfl)))
  focus assumption
  (try simp only [Act.put, List.setIfInBounds_toArray, List.set_cons_zero, List.set_cons_succ])
  refine' wpAnyH_take (i := 1) (v := _) ?_ ?_ ?_ ?_ ?_ ?_ ?_ ?_
  rotate_left 2
  focus (simp only [List.getElem?_toArray, List.getElem?_cons_succ, List.getElem?_cons_zero]; rfl)
  focus kernel_rfl
  focus kernel_rfl
  focus kernel_rfl
  focus exact (fun _ _ _ h => h)
  refine Or.inl ⟨?_, ?_⟩
  focus (go_simp; done)
  focus (intro w hSw; have m9 := hSw.1.cell 9; unfold rnC at m9; have l1 := hSw.1.lt; have o1 := hSw.2.1.cell 1; have o2 := hSw.2.1.cell 2; have o3 := hSw.2.1.cell 3; have o4 := hSw.2.1.cell 4; have va := own_val hSw.2.2 HUa.out; (first | (go_simp; done) | (go_simp; with_reducible rfl)))
  focus assumption
  (try simp only [Act.put, List.setIfInBounds_toArray, List.set_cons_zero, List.set_cons_succ])
  refine' wpAnyH_take (i := 2) (v := _) ?_ ?_ ?_ ?_ ?_ ?_ ?_ ?_
  rotate_left 2
  focus (simp only [List.getElem?_toArray, List.getElem?_cons_succ, List.getElem?_cons_zero]; rfl)
  focus kernel_rfl
  focus kernel_rfl
  focus kernel_rfl
  focus exact (fun _ _ _ h => h)
  refine Or.inl ⟨?_, ?_⟩
  focus (go_simp; done)
  focus (intro w hSw; have m9 := hSw.1.cell 9; unfold rnC at m9; have l1 := hSw.1.lt; have o1 := hSw.2.1.cell 1; have o2 := hSw.2.1.cell 2; have o3 := hSw.2.1.cell 3; have o4 := hSw.2.1.cell 4; have va := own_val hSw.2.2 HUa.out; (first | (go_simp; done) | (go_simp; with_reducible rfl)))
  focus assumption
  (try simp only [Act.put, List.setIfInBounds_toArray, List.set_cons_zero, List.set_cons_succ])
  refine' wpAnyH_take (i := 3) (v := _) ?_ ?_ ?_ ?_ ?_ ?_ ?_ ?_
  rotate_left 2
  focus (simp only [List.getElem?_toArray, List.getElem?_cons_succ, List.getElem?_cons_zero]; rfl)
  focus kernel_rfl
  focus kernel_rfl
  focus kernel_rfl
  focus exact (fun _ _ _ h => h)
  refine Or.inl ⟨?_, ?_⟩
  focus (go_simp; done)
  focus (intro w hSw; have m9 := hSw.1.cell 9; unfold rnC at m9; have l1 := hSw.1.lt; have o1 := hSw.2.1.cell 1; have o2 := hSw.2.1.cell 2; have o3 := hSw.2.1.cell 3; have o4 := hSw.2.1.cell 4; have va := own_val hSw.2.2 HUa.out; (first | (go_simp; done) | (go_simp; with_reducible rfl)))
  focus assumption
  (try simp only [Act.put, List.setIfInBounds_toArray, List.set_cons_zero, List.set_cons_succ])
  refine' wpAnyH_take (i := 4) (v := _) ?_ ?_ ?_ ?_ ?_ ?_ ?_ ?_
  rotate_left 2
  focus (simp only [List.getElem?_toArray, List.getElem?_cons_succ, List.getElem?_cons_zero]; rfl)
  focus kernel_rfl
  focus kernel_rfl
  focus kernel_rfl
  focus exact (fun _ _ _ h => h)
  refine Or.inl ⟨?_, ?_⟩
  focus (go_simp; done)
  focus (intro w hSw; have m9 := hSw.1.cell 9; unfold rnC at m9; have l1 := hSw.1.lt; have o1 := hSw.2.1.cell 1; have o2 := hSw.2.1.cell 2; have o3 := hSw.2.1.cell 3; have o4 := hSw.2.1.cell 4; have va := own_val hSw.2.2 HUa.out; (first | (go_simp; done) | (go_simp; with_reducible rfl)))
  focus assumption
  (try simp only [Act.put, List.setIfInBounds_toArray, List.set_cons_zero, List.set_cons_succ])
  refine' wpAnyH_take (i := 5) (v := _) ?_ ?_ ?_ ?_ ?_ ?_ ?_ ?_
  rotate_left 2
  focus (simp only [List.getElem?_toArray, List.getElem?_cons_succ, List.getElem?_cons_zero]; rfl)
  focus kernel_rfl
  focus kernel_rfl
  focus kernel_rfl
  focus exact (fun _ _ _ h => h)
  refine Or.inl ⟨?_, ?_⟩
  focus (go_simp; done)
  focus (intro w hSw; have m9 := hSw.1.cell 9; unfold rnC at m9; have l1 := hSw.1.lt; have o1 := hSw.2.1.cell 1; have o2 := hSw.2.1.cell 2; have o3 := hSw.2.1.cell 3; have o4 := hSw.2.1.cell 4; have va := own_val hSw.2.2 HUa.out; (first | (go_simp; done) | (go_simp; with_reducible rfl)))
  focus assumption
  (try simp only [Act.put, List.setIfInBounds_toArray, List.set_cons_zero, List.set_cons_succ])
  refine' wpAnyH_take (i := 6) (v := _) ?_ ?_ ?_ ?_ ?_ ?_ ?_ ?_
  rotate_left 2
  focus (simp only [List.getElem?_toArray, List.getElem?_cons_succ, List.getElem?_cons_zero]; rfl)
  focus kernel_rfl
  focus kernel_rfl
  focus kernel_rfl
  focus exact (fun _ _ _ h => h)
  refine Or.inl ⟨?_, ?_⟩
  focus (go_simp; done)
  focus (intro w hSw; have m9 := hSw.1.cell 9; unfold rnC at m9; have l1 := hSw.1.lt; have o1 := hSw.2.1.cell 1; have o2 := hSw.2.1.cell 2; have o3 := hSw.2.1.cell 3; have o4 := hSw.2.1.cell 4; have va := own_val hSw.2.2 HUa.out; (first | (go_simp; done) | (go_simp; with_reducible rfl)))
  focus assumption
  (try simp only [Act.put, List.setIfInBounds_toArray, List.set_cons_zero, List.set_cons_succ])
  refine' wpAnyH_take (i := 7) (v := _) ?_ ?_ ?_ ?_ ?_ ?_ ?_ ?_
  rotate_left 2
  focus (simp only [List.getElem?_toArray, List.getElem?_cons_succ, List.getElem?_cons_zero]; rfl)
  focus kernel_rfl
  focus kernel_rfl
  focus kernel_rfl
  focus exact (fun _ _ _ h => h)
  refine Or.inl ⟨?_, ?_⟩
  focus (go_simp; done)
  focus (intro w hSw; have m9 := hSw.1.cell 9; unfold rnC at m9; have l1 := hSw.1.lt; have o1 := hSw.2.1.cell 1; have o2 := hSw.2.1.cell 2; have o3 := hSw.2.1.cell 3; have o4 := hSw.2.1.cell 4; have va := own_val hSw.2.2 HUa.out; (first | (go_simp; done) | (go_simp; with_reducible rfl)))
  focus assumption
  (try simp only [Act.put, List.setIfInBounds_toArray, List.set_cons_zero, List.set_cons_succ])
  refine' wpAnyH_take (i := 8) (v := _) ?_ ?_ ?_ ?_ ?_ ?_ ?_ ?_
  rotate_left 2
  focus (simp only [List.getElem?_toArray, List.getElem?_cons_succ, List.getElem?_cons_zero]; rfl)
  focus kernel_rfl
  focus kernel_rfl
  focus kernel_rfl
  focus exact (fun _ _ _ h => h)
  refine Or.inl ⟨?_, ?_⟩
  focus (go_simp; done)
  focus (intro w hSw; have m9 := hSw.1.cell 9; unfold rnC at m9; have l1 := hSw.1.lt; have o1 := hSw.2.1.cell 1; have o2 := hSw.2.1.cell 2; have o3 := hSw.2.1.cell 3; have o4 := hSw.2.1.cell 4; have va := own_val hSw.2.2 HUa.out; (first | (go_simp; done) | (go_simp; with_reducible rfl)))
  focus assumption
  (try simp only [Act.put, List.setIfInBounds_toArray, List.set_cons_zero, List.set_cons_succ])
  refine wpAnyH_done (by kernel_rfl) ?_ _
  have HB1 := Lib.hid (show Rn lo Rb Vb x (.slice (some ⟨gv, 0, none⟩) s.ars.length cv) us hv s steps left W0.drew ∧ Bk W0.drew w.heap.size 27 #[.int .i64 4, .int .i64 (d : Int), .int .i64 (a : Int), .int .i64 b, .int .i64 (i : Int)] ∧ Mv Rb Vb us w W0.drew ∧ W0.drew.ownsRow lo 3 1 (.slice (some ⟨ga, 0, none⟩) ar.length ca) ar.length (ar.map (.int .i64)) from ⟨HB.out.1.below (below_drewN _ _ 1), HB.out.2.1.below (below_drewN _ _ 1), HB.out.2.2.trans (Mv.of_below (below_drewN _ _ 1)), by
    have h := (HB.out.1.below (below_drewN _ W0 1)).ar.2.1 i _ HUa.out
    rw [HAr.out] at h
    exact h⟩)
  clear HB hHeld
  generalize hW : W0.drew = W1 at HB1 ⊢
  clear hW
  go_upto_region 10 with fail
  refine wp_region_last (S := (fun u : World => Bk u Rb 67 (rnC x Vb s.vs.length (.slice (some ⟨gv, 0, none⟩) s.ars.length cv) hv steps left) ∧ Bk u Vb 3 (s.vs.map (Value.int .i64)).toArray ∧ Bk u w.heap.size 27 #[.int .i64 4, .int .i64 (d : Int), .int .i64 (a : Int), .int .i64 b, .int .i64 (i : Int)] ∧ u.ownsRow lo 3 1 (.slice (some ⟨ga, 0, none⟩) ar.length ca) ar.length (ar.map (.int .i64)))) 21 (by kernel_rfl) ?_ (fun hHeld => ?_)
  · exact ⟨HB1.out.1.rb.below (below_drewN _ _ 1), HB1.out.1.vb.below (below_drewN _ _ 1), HB1.out.2.1.below (below_drewN _ _ 1), own_below HB1.out.2.2.2 (below_drewN _ _ 1)⟩
  refine' wpAnyL_take (i := 0) (v := _) ?_ ?_ ?_ ?_ ?_ ?_ ?_ ?_ ?_
  rotate_left 2
  focus (simp only [List.getElem?_toArray, List.getElem?_cons_succ, List.getElem?_cons_zero]; rfl)
  focus kernel_rfl
  focus kernel_rfl
  focus kernel_rfl
  focus kernel_rfl
  focus exact (fun _ _ _ h => h)
  refine Or.inl ⟨?_, ?_⟩
  focus (go_simp; done)
  focus (intro w hSw; have m8 := hSw.1.cell 8; unfold rnC at m8; have l1 := hSw.1.lt; have o1 := hSw.2.2.1.cell 1; have o2 := hSw.2.2.1.cell 2; have o3 := hSw.2.2.1.cell 3; have o4 := hSw.2.2.1.cell 4; have va := vs_cell hSw.2.1 (i := a) (by omega); rw [HXa.out] at va; have ve := own_num hSw.2.2.2 hq1; rw [HXe.out] at ve; (first | (go_simp; done) | (go_simp; with_reducible rfl)))
  focus assumption
  (try simp only [Act.put, List.setIfInBounds_toArray, List.set_cons_zero, List.set_cons_succ])
  refine' wpAnyL_take (i := 1) (v := _) ?_ ?_ ?_ ?_ ?_ ?_ ?_ ?_ ?_
  rotate_left 2
  focus (simp only [List.getElem?_toArray, List.getElem?_cons_succ, List.getElem?_cons_zero]; rfl)
  focus kernel_rfl
  focus kernel_rfl
  focus kernel_rfl
  focus kernel_rfl
  focus exact (fun _ _ _ h => h)
  refine Or.inl ⟨?_, ?_⟩
  focus (go_simp; done)
  focus (intro w hSw; have m8 := hSw.1.cell 8; unfold rnC at m8; have l1 := hSw.1.lt; have o1 := hSw.2.2.1.cell 1; have o2 := hSw.2.2.1.cell 2; have o3 := hSw.2.2.1.cell 3; have o4 := hSw.2.2.1.cell 4; have va := vs_cell hSw.2.1 (i := a) (by omega); rw [HXa.out] at va; have ve := own_num hSw.2.2.2 hq1; rw [HXe.out] at ve; (first | (go_simp; done) | (go_simp; with_reducible rfl)))
  focus assumption
  (try simp only [Act.put, List.setIfInBounds_toArray, List.set_cons_zero, List.set_cons_succ])
  refine' wpAnyL_take (i := 2) (v := _) ?_ ?_ ?_ ?_ ?_ ?_ ?_ ?_ ?_
  rotate_left 2
  focus (simp only [List.getElem?_toArray, List.getElem?_cons_succ, List.getElem?_cons_zero]; rfl)
  focus kernel_rfl
  focus kernel_rfl
  focus kernel_rfl
  focus kernel_rfl
  focus exact (fun _ _ _ h => h)
  refine Or.inl ⟨?_, ?_⟩
  focus (go_simp; done)
  focus (intro w hSw; have m8 := hSw.1.cell 8; unfold rnC at m8; have l1 := hSw.1.lt; have o1 := hSw.2.2.1.cell 1; have o2 := hSw.2.2.1.cell 2; have o3 := hSw.2.2.1.cell 3; have o4 := hSw.2.2.1.cell 4; have va := vs_cell hSw.2.1 (i := a) (by omega); rw [HXa.out] at va; have ve := own_num hSw.2.2.2 hq1; rw [HXe.out] at ve; (first | (go_simp; done) | (go_simp; with_reducible rfl)))
  focus assumption
  (try simp only [Act.put, List.setIfInBounds_toArray, List.set_cons_zero, List.set_cons_succ])
  refine' wpAnyL_take (i := 3) (v := _) ?_ ?_ ?_ ?_ ?_ ?_ ?_ ?_ ?_
  rotate_left 2
  focus (simp only [List.getElem?_toArray, List.getElem?_cons_succ, List.getElem?_cons_zero]; rfl)
  focus kernel_rfl
  focus kernel_rfl
  focus kernel_rfl
  focus kernel_rfl
  focus exact (fun _ _ _ h => h)
  refine Or.inl ⟨?_, ?_⟩
  focus (go_simp; done)
  focus (intro w hSw; have m8 := hSw.1.cell 8; unfold rnC at m8; have l1 := hSw.1.lt; have o1 := hSw.2.2.1.cell 1; have o2 := hSw.2.2.1.cell 2; have o3 := hSw.2.2.1.cell 3; have o4 := hSw.2.2.1.cell 4; have va := vs_cell hSw.2.1 (i := a) (by omega); rw [HXa.out] at va; have ve := own_num hSw.2.2.2 hq1; rw [HXe.out] at ve; (first | (go_simp; done) | (go_simp; with_reducible rfl)))
  focus assumption
  (try simp only [Act.put, List.setIfInBounds_toArray, List.set_cons_zero, List.set_cons_succ])
  refine' wpAnyL_take (i := 4) (v := _) ?_ ?_ ?_ ?_ ?_ ?_ ?_ ?_ ?_
  rotate_left 2
  focus (simp only [List.getElem?_toArray, List.getElem?_cons_succ, List.getElem?_cons_zero]; rfl)
  focus kernel_rfl
  focus kernel_rfl
  focus kernel_rfl
  focus kernel_rfl
  focus exact (fun _ _ _ h => h)
  refine Or.inl ⟨?_, ?_⟩
  focus (go_simp; done)
  focus (intro w hSw; have m8 := hSw.1.cell 8; unfold rnC at m8; have l1 := hSw.1.lt; have o1 := hSw.2.2.1.cell 1; have o2 := hSw.2.2.1.cell 2; have o3 := hSw.2.2.1.cell 3; have o4 := hSw.2.2.1.cell 4; have va := vs_cell hSw.2.1 (i := a) (by omega); rw [HXa.out] at va; have ve := own_num hSw.2.2.2 hq1; rw [HXe.out] at ve; (first | (go_simp; done) | (go_simp; with_reducible rfl)))
  focus assumption
  (try simp only [Act.put, List.setIfInBounds_toArray, List.set_cons_zero, List.set_cons_succ])
  refine' wpAnyL_take (i := 5) (v := _) ?_ ?_ ?_ ?_ ?_ ?_ ?_ ?_ ?_
  rotate_left 2
  focus (simp only [List.getElem?_toArray, List.getElem?_cons_succ, List.getElem?_cons_zero]; rfl)
  focus kernel_rfl
  focus kernel_rfl
  focus kernel_rfl
  focus kernel_rfl
  focus exact (fun _ _ _ h => h)
  refine Or.inl ⟨?_, ?_⟩
  focus (go_simp; done)
  focus (intro w hSw; have m8 := hSw.1.cell 8; unfold rnC at m8; have l1 := hSw.1.lt; have o1 := hSw.2.2.1.cell 1; have o2 := hSw.2.2.1.cell 2; have o3 := hSw.2.2.1.cell 3; have o4 := hSw.2.2.1.cell 4; have va := vs_cell hSw.2.1 (i := a) (by omega); rw [HXa.out] at va; have ve := own_num hSw.2.2.2 hq1; rw [HXe.out] at ve; (first | (go_simp; done) | (go_simp; with_reducible rfl)))
  focus assumption
  (try simp only [Act.put, List.setIfInBounds_toArray, List.set_cons_zero, List.set_cons_succ])
  refine' wpAnyL_take (i := 6) (v := _) ?_ ?_ ?_ ?_ ?_ ?_ ?_ ?_ ?_
  rotate_left 2
  focus (simp only [List.getElem?_toArray, List.getElem?_cons_succ, List.getElem?_cons_zero]; rfl)
  focus kernel_rfl
  focus kernel_rfl
  focus kernel_rfl
  focus kernel_rfl
  focus exact (fun _ _ _ h => h)
  refine Or.inl ⟨?_, ?_⟩
  focus (go_simp; done)
  focus (intro w hSw; have m8 := hSw.1.cell 8; unfold rnC at m8; have l1 := hSw.1.lt; have o1 := hSw.2.2.1.cell 1; have o2 := hSw.2.2.1.cell 2; have o3 := hSw.2.2.1.cell 3; have o4 := hSw.2.2.1.cell 4; have va := vs_cell hSw.2.1 (i := a) (by omega); rw [HXa.out] at va; have ve := own_num hSw.2.2.2 hq1; rw [HXe.out] at ve; (first | (go_simp; done) | (go_simp; with_reducible rfl)))
  focus assumption
  (try simp only [Act.put, List.setIfInBounds_toArray, List.set_cons_zero, List.set_cons_succ])
  refine' wpAnyL_take (i := 7) (v := _) ?_ ?_ ?_ ?_ ?_ ?_ ?_ ?_ ?_
  rotate_left 2
  focus (simp only [List.getElem?_toArray, List.getElem?_cons_succ, List.getElem?_cons_zero]; rfl)
  focus kernel_rfl
  focus kernel_rfl
  focus kernel_rfl
  focus kernel_rfl
  focus exact (fun _ _ _ h => h)
  refine Or.inl ⟨?_, ?_⟩
  focus (go_simp; done)
  focus (intro w hSw; have m8 := hSw.1.cell 8; unfold rnC at m8; have l1 := hSw.1.lt; have o1 := hSw.2.2.1.cell 1; have o2 := hSw.2.2.1.cell 2; have o3 := hSw.2.2.1.cell 3; have o4 := hSw.2.2.1.cell 4; have va := vs_cell hSw.2.1 (i := a) (by omega); rw [HXa.out] at va; have ve := own_num hSw.2.2.2 hq1; rw [HXe.out] at ve; (first | (go_simp; done) | (go_simp; with_reducible rfl)))
  focus assumption
  (try simp only [Act.put, List.setIfInBounds_toArray, List.set_cons_zero, List.set_cons_succ])
  refine' wpAnyL_take (i := 8) (v := _) ?_ ?_ ?_ ?_ ?_ ?_ ?_ ?_ ?_
  rotate_left 2
  focus (simp only [List.getElem?_toArray, List.getElem?_cons_succ, List.getElem?_cons_zero]; rfl)
  focus kernel_rfl
  focus kernel_rfl
  focus kernel_rfl
  focus kernel_rfl
  focus exact (fun _ _ _ h => h)
  refine Or.inl ⟨?_, ?_⟩
  focus (go_simp; done)
  focus (intro w hSw; have m8 := hSw.1.cell 8; unfold rnC at m8; have l1 := hSw.1.lt; have o1 := hSw.2.2.1.cell 1; have o2 := hSw.2.2.1.cell 2; have o3 := hSw.2.2.1.cell 3; have o4 := hSw.2.2.1.cell 4; have va := vs_cell hSw.2.1 (i := a) (by omega); rw [HXa.out] at va; have ve := own_num hSw.2.2.2 hq1; rw [HXe.out] at ve; (first | (go_simp; done) | (go_simp; with_reducible rfl)))
  focus assumption
  (try simp only [Act.put, List.setIfInBounds_toArray, List.set_cons_zero, List.set_cons_succ])
  refine' wpAnyL_take (i := 9) (v := _) ?_ ?_ ?_ ?_ ?_ ?_ ?_ ?_ ?_
  rotate_left 2
  focus (simp only [List.getElem?_toArray, List.getElem?_cons_succ, List.getElem?_cons_zero]; rfl)
  focus kernel_rfl
  focus kernel_rfl
  focus kernel_rfl
  focus kernel_rfl
  focus exact (fun _ _ _ h => h)
  refine Or.inl ⟨?_, ?_⟩
  focus (go_simp; done)
  focus (intro w hSw; have m8 := hSw.1.cell 8; unfold rnC at m8; have l1 := hSw.1.lt; have o1 := hSw.2.2.1.cell 1; have o2 := hSw.2.2.1.cell 2; have o3 := hSw.2.2.1.cell 3; have o4 := hSw.2.2.1.cell 4; have va := vs_cell hSw.2.1 (i := a) (by omega); rw [HXa.out] at va; have ve := own_num hSw.2.2.2 hq1; rw [HXe.out] at ve; (first | (go_simp; done) | (go_simp; with_reducible rfl)))
  focus assumption
  (try simp only [Act.put, List.setIfInBounds_toArray, List.set_cons_zero, List.set_cons_succ])
  refine' wpAnyL_take (i := 10) (v := _) ?_ ?_ ?_ ?_ ?_ ?_ ?_ ?_ ?_
  rotate_left 2
  focus (simp only [List.getElem?_toArray, List.getElem?_cons_succ, List.getElem?_cons_zero]; rfl)
  focus kernel_rfl
  focus kernel_rfl
  focus kernel_rfl
  focus kernel_rfl
  focus exact (fun _ _ _ h => h)
  refine Or.inl ⟨?_, ?_⟩
  focus (go_simp; done)
  focus (intro w hSw; have m8 := hSw.1.cell 8; unfold rnC at m8; have l1 := hSw.1.lt; have o1 := hSw.2.2.1.cell 1; have o2 := hSw.2.2.1.cell 2; have o3 := hSw.2.2.1.cell 3; have o4 := hSw.2.2.1.cell 4; have va := vs_cell hSw.2.1 (i := a) (by omega); rw [HXa.out] at va; have ve := own_num hSw.2.2.2 hq1; rw [HXe.out] at ve; (first | (go_simp; done) | (go_simp; with_reducible rfl)))
  focus assumption
  (try simp only [Act.put, List.setIfInBounds_toArray, List.set_cons_zero, List.set_cons_succ])
  refine' wpAnyL_take (i := 11) (v := _) ?_ ?_ ?_ ?_ ?_ ?_ ?_ ?_ ?_
  rotate_left 2
  focus (simp only [List.getElem?_toArray, List.getElem?_cons_succ, List.getElem?_cons_zero]; rfl)
  focus kernel_rfl
  focus kernel_rfl
  focus kernel_rfl
  focus kernel_rfl
  focus exact (fun _ _ _ h => h)
  refine Or.inl ⟨?_, ?_⟩
  focus (go_simp; done)
  focus (intro w hSw; have m8 := hSw.1.cell 8; unfold rnC at m8; have l1 := hSw.1.lt; have o1 := hSw.2.2.1.cell 1; have o2 := hSw.2.2.1.cell 2; have o3 := hSw.2.2.1.cell 3; have o4 := hSw.2.2.1.cell 4; have va := vs_cell hSw.2.1 (i := a) (by omega); rw [HXa.out] at va; have ve := own_num hSw.2.2.2 hq1; rw [HXe.out] at ve; (first | (go_simp; done) | (go_simp; with_reducible rfl)))
  focus assumption
  (try simp only [Act.put, List.setIfInBounds_toArray, List.set_cons_zero, List.set_cons_succ])
  refine' wpAnyL_take (i := 12) (v := _) ?_ ?_ ?_ ?_ ?_ ?_ ?_ ?_ ?_
  rotate_left 2
  focus (simp only [List.getElem?_toArray, List.getElem?_cons_succ, List.getElem?_cons_zero]; rfl)
  focus kernel_rfl
  focus kernel_rfl
  focus kernel_rfl
  focus kernel_rfl
  focus exact (fun _ _ _ h => h)
  refine Or.inl ⟨?_, ?_⟩
  focus (go_simp; done)
  focus (intro w hSw; have m8 := hSw.1.cell 8; unfold rnC at m8; have l1 := hSw.1.lt; have o1 := hSw.2.2.1.cell 1; have o2 := hSw.2.2.1.cell 2; have o3 := hSw.2.2.1.cell 3; have o4 := hSw.2.2.1.cell 4; have va := vs_cell hSw.2.1 (i := a) (by omega); rw [HXa.out] at va; have ve := own_num hSw.2.2.2 hq1; rw [HXe.out] at ve; (first | (go_simp; done) | (go_simp; with_reducible rfl)))
  focus assumption
  (try simp only [Act.put, List.setIfInBounds_toArray, List.set_cons_zero, List.set_cons_succ])
  refine' wpAnyL_take (i := 13) (v := _) ?_ ?_ ?_ ?_ ?_ ?_ ?_ ?_ ?_
  rotate_left 2
  focus (simp only [List.getElem?_toArray, List.getElem?_cons_succ, List.getElem?_cons_zero]; rfl)
  focus kernel_rfl
  focus kernel_rfl
  focus kernel_rfl
  focus kernel_rfl
  focus exact (fun _ _ _ h => h)
  refine Or.inl ⟨?_, ?_⟩
  focus (go_simp; done)
  focus (intro w hSw; have m8 := hSw.1.cell 8; unfold rnC at m8; have l1 := hSw.1.lt; have o1 := hSw.2.2.1.cell 1; have o2 := hSw.2.2.1.cell 2; have o3 := hSw.2.2.1.cell 3; have o4 := hSw.2.2.1.cell 4; have va := vs_cell hSw.2.1 (i := a) (by omega); rw [HXa.out] at va; have ve := own_num hSw.2.2.2 hq1; rw [HXe.out] at ve; (first | (go_simp; done) | (go_simp; with_reducible rfl)))
  focus assumption
  (try simp only [Act.put, List.setIfInBounds_toArray, List.set_cons_zero, List.set_cons_succ])
  refine' wpAnyL_take (i := 14) (v := _) ?_ ?_ ?_ ?_ ?_ ?_ ?_ ?_ ?_
  rotate_left 2
  focus (simp only [List.getElem?_toArray, List.getElem?_cons_succ, List.getElem?_cons_zero]; rfl)
  focus kernel_rfl
  focus kernel_rfl
  focus kernel_rfl
  focus kernel_rfl
  focus exact (fun _ _ _ h => h)
  refine Or.inl ⟨?_, ?_⟩
  focus (go_simp; done)
  focus (intro w hSw; have m8 := hSw.1.cell 8; unfold rnC at m8; have l1 := hSw.1.lt; have o1 := hSw.2.2.1.cell 1; have o2 := hSw.2.2.1.cell 2; have o3 := hSw.2.2.1.cell 3; have o4 := hSw.2.2.1.cell 4; have va := vs_cell hSw.2.1 (i := a) (by omega); rw [HXa.out] at va; have ve := own_num hSw.2.2.2 hq1; rw [HXe.out] at ve; (first | (go_simp; done) | (go_simp; with_reducible rfl)))
  focus assumption
  (try simp only [Act.put, List.setIfInBounds_toArray, List.set_cons_zero, List.set_cons_succ])
  refine' wpAnyL_take (i := 15) (v := _) ?_ ?_ ?_ ?_ ?_ ?_ ?_ ?_ ?_
  rotate_left 2
  focus (simp only [List.getElem?_toArray, List.getElem?_cons_succ, List.getElem?_cons_zero]; rfl)
  focus kernel_rfl
  focus kernel_rfl
  focus kernel_rfl
  focus kernel_rfl
  focus exact (fun _ _ _ h => h)
  refine Or.inl ⟨?_, ?_⟩
  focus (go_simp; done)
  focus (intro w hSw; have m8 := hSw.1.cell 8; unfold rnC at m8; have l1 := hSw.1.lt; have o1 := hSw.2.2.1.cell 1; have o2 := hSw.2.2.1.cell 2; have o3 := hSw.2.2.1.cell 3; have o4 := hSw.2.2.1.cell 4; have va := vs_cell hSw.2.1 (i := a) (by omega); rw [HXa.out] at va; have ve := own_num hSw.2.2.2 hq1; rw [HXe.out] at ve; (first | (go_simp; done) | (go_simp; with_reducible rfl)))
  focus assumption
  (try simp only [Act.put, List.setIfInBounds_toArray, List.set_cons_zero, List.set_cons_succ])
  refine' wpAnyL_take (i := 16) (v := _) ?_ ?_ ?_ ?_ ?_ ?_ ?_ ?_ ?_
  rotate_left 2
  focus (simp only [List.getElem?_toArray, List.getElem?_cons_succ, List.getElem?_cons_zero]; rfl)
  focus kernel_rfl
  focus kernel_rfl
  focus kernel_rfl
  focus kernel_rfl
  focus exact (fun _ _ _ h => h)
  refine Or.inl ⟨?_, ?_⟩
  focus (go_simp; done)
  focus (intro w hSw; have m8 := hSw.1.cell 8; unfold rnC at m8; have l1 := hSw.1.lt; have o1 := hSw.2.2.1.cell 1; have o2 := hSw.2.2.1.cell 2; have o3 := hSw.2.2.1.cell 3; have o4 := hSw.2.2.1.cell 4; have va := vs_cell hSw.2.1 (i := a) (by omega); rw [HXa.out] at va; have ve := own_num hSw.2.2.2 hq1; rw [HXe.out] at ve; (first | (go_simp; done) | (go_simp; with_reducible rfl)))
  focus assumption
  (try simp only [Act.put, List.setIfInBounds_toArray, List.set_cons_zero, List.set_cons_succ])
  refine' wpAnyL_one (i := 17) ?_ ?_ ?_ (fun K hK => ?_)
  rotate_left
  focus kernel_rfl
  focus kernel_rfl
  focus (simp only [List.getElem?_toArray, List.getElem?_cons_succ, List.getElem?_cons_zero]; rfl)
  go_simp
  (go_at_call 52; refine (rplace_any xa (ar.length : Int) HXw.out ⟨by omega, by omega⟩ _).mono ?_; rintro e u1 ⟨rfl, rfl⟩; rw [HQp.out])
  refine hK.out _ _ (hHeld) (fun hHeld => ?_)
  clear hK K
  (try simp only [Act.put, List.setIfInBounds_toArray, List.set_cons_zero, List.set_cons_succ])
  refine' wpAnyL_take (i := 18) (v := _) ?_ ?_ ?_ ?_ ?_ ?_ ?_ ?_ ?_
  rotate_left 2
  focus (simp only [List.getElem?_toArray, List.getElem?_cons_succ, List.getElem?_cons_zero]; rfl)
  focus kernel_rfl
  focus kernel_rfl
  focus kernel_rfl
  focus kernel_rfl
  focus exact (fun _ _ _ h => h)
  refine Or.inl ⟨?_, ?_⟩
  focus (go_simp; done)
  focus (intro w hSw; have m8 := hSw.1.cell 8; unfold rnC at m8; have l1 := hSw.1.lt; have o1 := hSw.2.2.1.cell 1; have o2 := hSw.2.2.1.cell 2; have o3 := hSw.2.2.1.cell 3; have o4 := hSw.2.2.1.cell 4; have va := vs_cell hSw.2.1 (i := a) (by omega); rw [HXa.out] at va; have ve := own_num hSw.2.2.2 hq1; rw [HXe.out] at ve; (first | (go_simp; done) | (go_simp; with_reducible rfl)))
  focus assumption
  (try simp only [Act.put, List.setIfInBounds_toArray, List.set_cons_zero, List.set_cons_succ])
  refine' wpAnyL_take (i := 19) (v := _) ?_ ?_ ?_ ?_ ?_ ?_ ?_ ?_ ?_
  rotate_left 2
  focus (simp only [List.getElem?_toArray, List.getElem?_cons_succ, List.getElem?_cons_zero]; rfl)
  focus kernel_rfl
  focus kernel_rfl
  focus kernel_rfl
  focus kernel_rfl
  focus exact (fun _ _ _ h => h)
  refine Or.inl ⟨?_, ?_⟩
  focus (go_simp; done)
  focus (intro w hSw; have m8 := hSw.1.cell 8; unfold rnC at m8; have l1 := hSw.1.lt; have o1 := hSw.2.2.1.cell 1; have o2 := hSw.2.2.1.cell 2; have o3 := hSw.2.2.1.cell 3; have o4 := hSw.2.2.1.cell 4; have va := vs_cell hSw.2.1 (i := a) (by omega); rw [HXa.out] at va; have ve := own_num hSw.2.2.2 hq1; rw [HXe.out] at ve; (first | (go_simp; done) | (go_simp; with_reducible rfl)))
  focus assumption
  (try simp only [Act.put, List.setIfInBounds_toArray, List.set_cons_zero, List.set_cons_succ])
  refine' wpAnyL_take (i := 20) (v := _) ?_ ?_ ?_ ?_ ?_ ?_ ?_ ?_ ?_
  rotate_left 2
  focus (simp only [List.getElem?_toArray, List.getElem?_cons_succ, List.getElem?_cons_zero]; rfl)
  focus kernel_rfl
  focus kernel_rfl
  focus kernel_rfl
  focus kernel_rfl
  focus exact (fun _ _ _ h => h)
  refine Or.inl ⟨?_, ?_⟩
  focus (go_simp; done)
  focus (intro w hSw; have m8 := hSw.1.cell 8; unfold rnC at m8; have l1 := hSw.1.lt; have o1 := hSw.2.2.1.cell 1; have o2 := hSw.2.2.1.cell 2; have o3 := hSw.2.2.1.cell 3; have o4 := hSw.2.2.1.cell 4; have va := vs_cell hSw.2.1 (i := a) (by omega); rw [HXa.out] at va; have ve := own_num hSw.2.2.2 hq1; rw [HXe.out] at ve; (first | (go_simp; done) | (go_simp; with_reducible rfl)))
  focus assumption
  (try simp only [Act.put, List.setIfInBounds_toArray, List.set_cons_zero, List.set_cons_succ])
  refine' wpAnyL_last ?_ ?_ (fun K hK => ?_)
  rotate_left
  focus kernel_rfl
  focus (simp only [List.getElem?_toArray, List.getElem?_cons_succ, List.getElem?_cons_zero]; rfl)
  have r0 := vs_cell hHeld.2.1 (i := d) (by omega)
  have f0 := hHeld.2.1.frozen d
  have hlo := hHeld.2.1.lt
  go_simp
  refine hK.out _ _ ?_
  clear hK K
  (try simp only [Act.put, List.setIfInBounds_toArray, List.set_cons_zero, List.set_cons_succ])
  refine wpAny_done (by kernel_rfl) ?_ _
  have HR1 := Lib.hid (show Rn lo Rb Vb x (.slice (some ⟨gv, 0, none⟩) s.ars.length cv) us hv { s with vs := s.vs.set d xe } steps left (W1.setCell ⟨Vb, d, none⟩ (.int .i64 xe)).drew from (HB1.out.1.var d xe).below (below_drewN _ _ 1))
  have HM1 := Lib.hid (show Mv Rb Vb us w (W1.setCell ⟨Vb, d, none⟩ (.int .i64 xe)).drew from (HB1.out.2.2.1.put (p := ⟨Vb, d, none⟩) (.inr (.inl rfl)) (.int .i64 xe)).trans (Mv.of_below (below_drewN _ _ 1)))
  generalize hW : (World.setCell W1 ⟨Vb, d, none⟩ (.int .i64 xe)).drew = W2 at HR1 HM1 ⊢
  clear hW r0 f0 hlo HB1
  clear hHeld
  have c := HR1.out.rb.cell 11
  unfold rnC at c
  have f := HR1.out.rb.frozen 11
  have hlt := HR1.out.rb.lt
  have HN := Lib.hid (HR1.out.stepsTo (steps + 1))
  have HM2 := Lib.hid (HM1.out.put (p := ⟨Rb, 11, none⟩) (.inl rfl) (.int .i64 (steps + 1)))
  clear HR1 HM1
  go_wp2
  go_ret
  refine ⟨rfl, ?_, HM2.out⟩
  rw [HAct.out]
  exact HN.out
set_option maxHeartbeats 4000000 in
set_option maxRecDepth 100000 in
theorem rdo_5 (lo Rb Vb : Nat) (x : G8) (va : Value) (us : List Value) (hv : Value) (s : Tr.St) (steps left : Int) (hs : 0 ≤ steps ∧ steps ≤ 100000) (d a b i : Int) (V A : Nat) (hw : Tr.Wf V A s) (ho : Tr.Ok V A ⟨5, d, a, b, i⟩) (w : World) (h : Rn lo Rb Vb x va us hv s steps left w) :
    Calls Try.prog 28 #[.pointer (some ⟨Rb, 0, none⟩), .agg #[.int .i64 5, .int .i64 d, .int .i64 a, .int .i64 b, .int .i64 i]] w (DoPost lo Rb Vb x va us hv (Tr.act s ⟨5, d, a, b, i⟩) steps left w) := by
  have hvl := hw.vl
  have est : wrap64 (steps + 1) = steps + 1 := IntWalk.wrap64_in _ (by omega)
  have HW := Lib.hid hw
  have HO := Lib.hid ho
  have hb := ho.b (.inr rfl)
  have ha := ho.a (by show (2 : Int) ≤ 5; decide)
  have hi := ho.arr (.inr rfl)
  simp only at ha hb hi
  obtain ⟨a, rfl⟩ : ∃ n : Nat, a = (n : Int) := ⟨a.toNat, by omega⟩
  obtain ⟨b, rfl⟩ : ∃ n : Nat, b = (n : Int) := ⟨b.toNat, by omega⟩
  obtain ⟨i, rfl⟩ : ∃ n : Nat, i = (n : Int) := ⟨i.toNat, by omega⟩
  have hal := hw.al
  have ha1 : a < s.vs.length := by omega
  have ha2 : (a : Int) < s.vs.length := by omega
  have ha3 : (0 : Int) ≤ (a : Int) := by omega
  have hb1 : b < s.vs.length := by omega
  have hb2 : (b : Int) < s.vs.length := by omega
  have hb3 : (0 : Int) ≤ (b : Int) := by omega
  have hi1 : i < s.ars.length := by omega
  have hi2 : (i : Int) < s.ars.length := by omega
  have hi3 : (0 : Int) ≤ (i : Int) := by omega
  obtain ⟨xa, hxa⟩ : ∃ z, s.vs.getD a 0 = z := ⟨_, rfl⟩
  have HXa := Lib.hid hxa
  have HXw := Lib.hid (show Tr.isWd xa by have := hw.at (v := (a : Int)) (by omega) (by omega); unfold Tr.at_ at this; rw [Int.toNat_natCast, hxa] at this; exact this)
  obtain ⟨ar, har⟩ : ∃ z, s.ars.getD i [] = z := ⟨_, rfl⟩
  have HAr := Lib.hid har
  have hmem : ar ∈ s.ars := by have := hw.arr_mem (k := (i : Int)) (by omega) (by omega); unfold Tr.arr at this; rw [Int.toNat_natCast, har] at this; exact this
  have har16 := hw.as _ hmem
  have hrow := h.ar
  obtain ⟨gv, cv, hva⟩ := own_addr hrow.1 (by omega)
  subst hva
  have hul := hrow.len
  have hui : i < us.length := by omega
  have hua : us[i]? = some us[i] := List.getElem?_eq_getElem hui
  have hur := hrow.2.1 i _ hua
  rw [har] at hur
  obtain ⟨ga, ca, hga⟩ := own_addr hur (by omega)
  rw [hga] at hua hur
  have HUa := Lib.hid hua
  have HUr := Lib.hid hur
  obtain ⟨q, hq⟩ : ∃ q : Nat, Tr.plc xa (ar.length : Int) = (q : Int) := ⟨(Tr.plc xa (ar.length : Int)).toNat, by have := (Tr.plc_in (n := xa) (size := (ar.length : Int)) (by omega)).1; omega⟩
  have HQp := Lib.hid hq
  have hq1 : q < ar.length := by have := (Tr.plc_in (n := xa) (size := (ar.length : Int)) (by omega)).2; omega
  have hq2 : (q : Int) < ar.length := by omega
  have hq3 : (0 : Int) ≤ (q : Int) := by omega
  have hix : Tr.ix s ⟨5, d, (a : Int), (b : Int), (i : Int)⟩ = q := by unfold Tr.ix Tr.at_ Tr.arr; simp only [Int.toNat_natCast]; rw [hxa, har, hq, Int.toNat_natCast]
  obtain ⟨xb, hxb⟩ : ∃ z, s.vs.getD b 0 = z := ⟨_, rfl⟩
  have HXb := Lib.hid hxb
  have HAct := Lib.hid (show Tr.act s ⟨5, d, (a : Int), (b : Int), (i : Int)⟩ = { s with ars := s.ars.set i ((s.ars.getD i []).set q xb) } by unfold Tr.act; simp only [show ¬ (5 : Int) = 1 by decide, show ¬ (5 : Int) = 2 by decide, show ¬ (5 : Int) = 3 by decide, show ¬ (5 : Int) = 4 by decide, if_false, if_pos, Int.toNat_natCast]; rw [hix]; unfold Tr.arr Tr.at_; rw [Int.toNat_natCast, Int.toNat_natCast, hxb])
  clear hal hxa har hmem hrow hul hui hua hur hga hq hix hxb
  have HB := Lib.hid (show Rn lo Rb Vb x (.slice (some ⟨gv, 0, none⟩) s.ars.length cv) us hv s steps left (w.alloc (.cells #[.int .i64 5, .int .i64 d, .int .i64 (a : Int), .int .i64 (b : Int), .int .i64 (i : Int)] 27)) ∧ Bk (w.alloc (.cells #[.int .i64 5, .int .i64 d, .int .i64 (a : Int), .int .i64 (b : Int), .int .i64 (i : Int)] 27)) w.heap.size 27 #[.int .i64 5, .int .i64 d, .int .i64 (a : Int), .int .i64 (b : Int), .int .i64 (i : Int)] ∧ Mv Rb Vb us w (w.alloc (.cells #[.int .i64 5, .int .i64 d, .int .i64 (a : Int), .int .i64 (b : Int), .int .i64 (i : Int)] 27)) from ⟨h.below (bla (Below.refl _ _) _), Bk.new _ _ _, Mv.of_below (bla (Below.refl _ _) _)⟩)
  have HT := Lib.hid (show w.heap.size ≠ Rb ∧ w.heap.size ≠ Vb from ⟨by have := h.rb.lt; omega, by have := h.vb.lt; omega⟩)
  clear h hw ho hs
  go_enter Try.func28, Try.ntmps28
  go_upto_region 12 with fail
  generalize hW : w.alloc (.cells #[.int .i64 5, .int .i64 d, .int .i64 (a : Int), .int .i64 (b : Int), .int .i64 (i : Int)] 27) = W0 at HB ⊢
  clear hW
  refine wp_region_held_drew (S := (fun u : World => Bk u Rb 67 (rnC x Vb s.vs.length (.slice (some ⟨gv, 0, none⟩) s.ars.length cv) hv steps left) ∧ Bk u w.heap.size 27 #[.int .i64 5, .int .i64 d, .int .i64 (a : Int), .int .i64 (b : Int), .int .i64 (i : Int)] ∧ u.ownsRow lo 32 1 (.slice (some ⟨gv, 0, none⟩) s.ars.length cv) s.ars.length us)) (by kernel_rfl) (⟨HB.out.1.rb.below (below_drewN _ _ 1), HB.out.2.1.below (below_drewN _ _ 1), own_below HB.out.1.ar.1 (below_drewN _ _ 1)⟩) (fun hHeld => ?_)
  refine' wpAnyH_take (i := 0) (v := _) ?_ ?_ ?_ ?_ ?_ ?_ ?_ ?_
  rotate_left 2
  focus (simp only [List.getElem?_toArray, List.getElem?_cons_succ, List.getElem?_cons_zero]; rfl)
  focus kernel_rfl
  focus kernel_rfl
  focus kernel_rfl
  focus exact (fun _ _ _ h => h)
  refine Or.inl ⟨?_, ?_⟩
  focus (go_simp; done)
  focus (intro w hSw; have m9 := hSw.1.cell 9; unfold rnC at m9; have l1 := hSw.1.lt; have o1 := hSw.2.1.cell 1; have o2 := hSw.2.1.cell 2; have o3 := hSw.2.1.cell 3; have o4 := hSw.2.1.cell 4; have va := own_val hSw.2.2 HUa.out; (first | (go_simp; done) | (go_simp; with_reducible rfl)))
  focus assumption
  (try simp only [Act.put, List.setIfInBounds_toArray, List.set_cons_zero, List.set_cons_succ])
  refine' wpAnyH_take (i := 1) (v := _) ?_ ?_ ?_ ?_ ?_ ?_ ?_ ?_
  rotate_left 2
  focus (simp only [List.getElem?_toArray, List.getElem?_cons_succ, List.getElem?_cons_zero]; rfl)
  focus kernel_rfl
  focus kernel_rfl
  focus kernel_rfl
  focus exact (fun _ _ _ h => h)
  refine Or.inl ⟨?_, ?_⟩
  focus (go_simp; done)
  focus (intro w hSw; have m9 := hSw.1.cell 9; unfold rnC at m9; have l1 := hSw.1.lt; have o1 := hSw.2.1.cell 1; have o2 := hSw.2.1.cell 2; have o3 := hSw.2.1.cell 3; have o4 := hSw.2.1.cell 4; have va := own_val hSw.2.2 HUa.out; (first | (go_simp; done) | (go_simp; with_reducible rfl)))
  focus assumption
  (try simp only [Act.put, List.setIfInBounds_toArray, List.set_cons_zero, List.set_cons_succ])
  refine' wpAnyH_take (i := 2) (v := _) ?_ ?_ ?_ ?_ ?_ ?_ ?_ ?_
  rotate_left 2
  focus (simp only [List.getElem?_toArray, List.getElem?_cons_succ, List.getElem?_cons_zero]; rfl)
  focus kernel_rfl
  focus kernel_rfl
  focus kernel_rfl
  focus exact (fun _ _ _ h => h)
  refine Or.inl ⟨?_, ?_⟩
  focus (go_simp; done)
  focus (intro w hSw; have m9 := hSw.1.cell 9; unfold rnC at m9; have l1 := hSw.1.lt; have o1 := hSw.2.1.cell 1; have o2 := hSw.2.1.cell 2; have o3 := hSw.2.1.cell 3; have o4 := hSw.2.1.cell 4; have va := own_val hSw.2.2 HUa.out; (first | (go_simp; done) | (go_simp; with_reducible rfl)))
  focus assumption
  (try simp only [Act.put, List.setIfInBounds_toArray, List.set_cons_zero, List.set_cons_succ])
  refine' wpAnyH_take (i := 3) (v := _) ?_ ?_ ?_ ?_ ?_ ?_ ?_ ?_
  rotate_left 2
  focus (simp only [List.getElem?_toArray, List.getElem?_cons_succ, List.getElem?_cons_zero]; rfl)
  focus kernel_rfl
  focus kernel_rfl
  focus kernel_rfl
  focus exact (fun _ _ _ h => h)
  refine Or.inl ⟨?_, ?_⟩
  focus (go_simp; done)
  focus (intro w hSw; have m9 := hSw.1.cell 9; unfold rnC at m9; have l1 := hSw.1.lt; have o1 := hSw.2.1.cell 1; have o2 := hSw.2.1.cell 2; have o3 := hSw.2.1.cell 3; have o4 := hSw.2.1.cell 4; have va := own_val hSw.2.2 HUa.out; (first | (go_simp; done) | (go_simp; with_reducible rfl)))
  focus assumption
  (try simp only [Act.put, List.setIfInBounds_toArray, List.set_cons_zero, List.set_cons_succ])
  refine' wpAnyH_take (i := 4) (v := _) ?_ ?_ ?_ ?_ ?_ ?_ ?_ ?_
  rotate_left 2
  focus (simp only [List.getElem?_toArray, List.getElem?_cons_succ, List.getElem?_cons_zero]; rfl)
  focus kernel_rfl
  focus kernel_rfl
  focus kernel_rfl
  focus exact (fun _ _ _ h => h)
  refine Or.inl ⟨?_, ?_⟩
  focus (go_simp; done)
  focus (intro w hSw; have m9 := hSw.1.cell 9; unfold rnC at m9; have l1 := hSw.1.lt; have o1 := hSw.2.1.cell 1; have o2 := hSw.2.1.cell 2; have o3 := hSw.2.1.cell 3; have o4 := hSw.2.1.cell 4; have va := own_val hSw.2.2 HUa.out; (first | (go_simp; done) | (go_simp; with_reducible rfl)))
  focus assumption
  (try simp only [Act.put, List.setIfInBounds_toArray, List.set_cons_zero, List.set_cons_succ])
  refine' wpAnyH_take (i := 5) (v := _) ?_ ?_ ?_ ?_ ?_ ?_ ?_ ?_
  rotate_left 2
  focus (simp only [List.getElem?_toArray, List.getElem?_cons_succ, List.getElem?_cons_zero]; rfl)
  focus kernel_rfl
  focus kernel_rfl
  focus kernel_rfl
  focus exact (fun _ _ _ h => h)
  refine Or.inl ⟨?_, ?_⟩
  focus (go_simp; done)
  focus (intro w hSw; have m9 := hSw.1.cell 9; unfold rnC at m9; have l1 := hSw.1.lt; have o1 := hSw.2.1.cell 1; have o2 := hSw.2.1.cell 2; have o3 := hSw.2.1.cell 3; have o4 := hSw.2.1.cell 4; have va := own_val hSw.2.2 HUa.out; (first | (go_simp; done) | (go_simp; with_reducible rfl)))
  focus assumption
  (try simp only [Act.put, List.setIfInBounds_toArray, List.set_cons_zero, List.set_cons_succ])
  refine' wpAnyH_take (i := 6) (v := _) ?_ ?_ ?_ ?_ ?_ ?_ ?_ ?_
  rotate_left 2
  focus (simp only [List.getElem?_toArray, List.getElem?_cons_succ, List.getElem?_cons_zero]; rfl)
  focus kernel_rfl
  focus kernel_rfl
  focus kernel_rfl
  focus exact (fun _ _ _ h => h)
  refine Or.inl ⟨?_, ?_⟩
  focus (go_simp; done)
  focus (intro w hSw; have m9 := hSw.1.cell 9; unfold rnC at m9; have l1 := hSw.1.lt; have o1 := hSw.2.1.cell 1; have o2 := hSw.2.1.cell 2; have o3 := hSw.2.1.cell 3; have o4 := hSw.2.1.cell 4; have va := own_val hSw.2.2 HUa.out; (first | (go_simp; done) | (go_simp; with_reducible rfl)))
  focus assumption
  (try simp only [Act.put, List.setIfInBounds_toArray, List.set_cons_zero, List.set_cons_succ])
  refine' wpAnyH_take (i := 7) (v := _) ?_ ?_ ?_ ?_ ?_ ?_ ?_ ?_
  rotate_left 2
  focus (simp only [List.getElem?_toArray, List.getElem?_cons_succ, List.getElem?_cons_zero]; rfl)
  focus kernel_rfl
  focus kernel_rfl
  focus kernel_rfl
  focus exact (fun _ _ _ h => h)
  refine Or.inl ⟨?_, ?_⟩
  focus (go_simp; done)
  focus (intro w hSw; have m9 := hSw.1.cell 9; unfold rnC at m9; have l1 := hSw.1.lt; have o1 := hSw.2.1.cell 1; have o2 := hSw.2.1.cell 2; have o3 := hSw.2.1.cell 3; have o4 := hSw.2.1.cell 4; have va := own_val hSw.2.2 HUa.out; (first | (go_simp; done) | (go_simp; with_reducible rfl)))
  focus assumption
  (try simp only [Act.put, List.setIfInBounds_toArray, List.set_cons_zero, List.set_cons_succ])
  refine' wpAnyH_take (i := 8) (v := _) ?_ ?_ ?_ ?_ ?_ ?_ ?_ ?_
  rotate_left 2
  focus (simp only [List.getElem?_toArray, List.getElem?_cons_succ, List.getElem?_cons_zero]; rfl)
  focus kernel_rfl
  focus kernel_rfl
  focus kernel_rfl
  focus exact (fun _ _ _ h => h)
  refine Or.inl ⟨?_, ?_⟩
  focus (go_simp; done)
  focus (intro w hSw; have m9 := hSw.1.cell 9; unfold rnC at m9; have l1 := hSw.1.lt; have o1 := hSw.2.1.cell 1; have o2 := hSw.2.1.cell 2; have o3 := hSw.2.1.cell 3; have o4 := hSw.2.1.cell 4; have va := own_val hSw.2.2 HUa.out; (first | (go_simp; done) | (go_simp; with_reducible rfl)))
  focus assumption
  (try simp only [Act.put, List.setIfInBounds_toArray, List.set_cons_zero, List.set_cons_succ])
  refine wpAnyH_done (by kernel_rfl) ?_ _
  have HB1 := Lib.hid (show Rn lo Rb Vb x (.slice (some ⟨gv, 0, none⟩) s.ars.length cv) us hv s steps left W0.drew ∧ Bk W0.drew w.heap.size 27 #[.int .i64 5, .int .i64 d, .int .i64 (a : Int), .int .i64 (b : Int), .int .i64 (i : Int)] ∧ Mv Rb Vb us w W0.drew ∧ W0.drew.ownsRow lo 3 1 (.slice (some ⟨ga, 0, none⟩) ar.length ca) ar.length (ar.map (.int .i64)) from ⟨HB.out.1.below (below_drewN _ _ 1), HB.out.2.1.below (below_drewN _ _ 1), HB.out.2.2.trans (Mv.of_below (below_drewN _ _ 1)), by
    have h := (HB.out.1.below (below_drewN _ W0 1)).ar.2.1 i _ HUa.out
    rw [HAr.out] at h
    exact h⟩)
  clear HB hHeld
  generalize hW : W0.drew = W1 at HB1 ⊢
  clear hW
  go_upto_region 13 with fail
  refine wp_region_last (S := (fun u : World => Bk u Rb 67 (rnC x Vb s.vs.length (.slice (some ⟨gv, 0, none⟩) s.ars.length cv) hv steps left) ∧ Bk u Vb 3 (s.vs.map (Value.int .i64)).toArray ∧ Bk u w.heap.size 27 #[.int .i64 5, .int .i64 d, .int .i64 (a : Int), .int .i64 (b : Int), .int .i64 (i : Int)] ∧ u.ownsRow lo 3 1 (.slice (some ⟨ga, 0, none⟩) ar.length ca) ar.length (ar.map (.int .i64)))) 21 (by kernel_rfl) ?_ (fun hHeld => ?_)
  · exact ⟨HB1.out.1.rb.below (below_drewN _ _ 1), HB1.out.1.vb.below (below_drewN _ _ 1), HB1.out.2.1.below (below_drewN _ _ 1), own_below HB1.out.2.2.2 (below_drewN _ _ 1)⟩
  refine' wpAnyL_take (i := 0) (v := _) ?_ ?_ ?_ ?_ ?_ ?_ ?_ ?_ ?_
  rotate_left 2
  focus (simp only [List.getElem?_toArray, List.getElem?_cons_succ, List.getElem?_cons_zero]; rfl)
  focus kernel_rfl
  focus kernel_rfl
  focus kernel_rfl
  focus kernel_rfl
  focus exact (fun _ _ _ h => h)
  refine Or.inl ⟨?_, ?_⟩
  focus (go_simp; done)
  focus (intro w hSw; have m8 := hSw.1.cell 8; unfold rnC at m8; have l1 := hSw.1.lt; have o1 := hSw.2.2.1.cell 1; have o2 := hSw.2.2.1.cell 2; have o3 := hSw.2.2.1.cell 3; have o4 := hSw.2.2.1.cell 4; have va := vs_cell hSw.2.1 (i := a) (by omega); rw [HXa.out] at va; have vb := vs_cell hSw.2.1 (i := b) (by omega); rw [HXb.out] at vb; (first | (go_simp; done) | (go_simp; with_reducible rfl)))
  focus assumption
  (try simp only [Act.put, List.setIfInBounds_toArray, List.set_cons_zero, List.set_cons_succ])
  refine' wpAnyL_take (i := 1) (v := _) ?_ ?_ ?_ ?_ ?_ ?_ ?_ ?_ ?_
  rotate_left 2
  focus (simp only [List.getElem?_toArray, List.getElem?_cons_succ, List.getElem?_cons_zero]; rfl)
  focus kernel_rfl
  focus kernel_rfl
  focus kernel_rfl
  focus kernel_rfl
  focus exact (fun _ _ _ h => h)
  refine Or.inl ⟨?_, ?_⟩
  focus (go_simp; done)
  focus (intro w hSw; have m8 := hSw.1.cell 8; unfold rnC at m8; have l1 := hSw.1.lt; have o1 := hSw.2.2.1.cell 1; have o2 := hSw.2.2.1.cell 2; have o3 := hSw.2.2.1.cell 3; have o4 := hSw.2.2.1.cell 4; have va := vs_cell hSw.2.1 (i := a) (by omega); rw [HXa.out] at va; have vb := vs_cell hSw.2.1 (i := b) (by omega); rw [HXb.out] at vb; (first | (go_simp; done) | (go_simp; with_reducible rfl)))
  focus assumption
  (try simp only [Act.put, List.setIfInBounds_toArray, List.set_cons_zero, List.set_cons_succ])
  refine' wpAnyL_take (i := 2) (v := _) ?_ ?_ ?_ ?_ ?_ ?_ ?_ ?_ ?_
  rotate_left 2
  focus (simp only [List.getElem?_toArray, List.getElem?_cons_succ, List.getElem?_cons_zero]; rfl)
  focus kernel_rfl
  focus kernel_rfl
  focus kernel_rfl
  focus kernel_rfl
  focus exact (fun _ _ _ h => h)
  refine Or.inl ⟨?_, ?_⟩
  focus (go_simp; done)
  focus (intro w hSw; have m8 := hSw.1.cell 8; unfold rnC at m8; have l1 := hSw.1.lt; have o1 := hSw.2.2.1.cell 1; have o2 := hSw.2.2.1.cell 2; have o3 := hSw.2.2.1.cell 3; have o4 := hSw.2.2.1.cell 4; have va := vs_cell hSw.2.1 (i := a) (by omega); rw [HXa.out] at va; have vb := vs_cell hSw.2.1 (i := b) (by omega); rw [HXb.out] at vb; (first | (go_simp; done) | (go_simp; with_reducible rfl)))
  focus assumption
  (try simp only [Act.put, List.setIfInBounds_toArray, List.set_cons_zero, List.set_cons_succ])
  refine' wpAnyL_take (i := 3) (v := _) ?_ ?_ ?_ ?_ ?_ ?_ ?_ ?_ ?_
  rotate_left 2
  focus (simp only [List.getElem?_toArray, List.getElem?_cons_succ, List.getElem?_cons_zero]; rfl)
  focus kernel_rfl
  focus kernel_rfl
  focus kernel_rfl
  focus kernel_rfl
  focus exact (fun _ _ _ h => h)
  refine Or.inl ⟨?_, ?_⟩
  focus (go_simp; done)
  focus (intro w hSw; have m8 := hSw.1.cell 8; unfold rnC at m8; have l1 := hSw.1.lt; have o1 := hSw.2.2.1.cell 1; have o2 := hSw.2.2.1.cell 2; have o3 := hSw.2.2.1.cell 3; have o4 := hSw.2.2.1.cell 4; have va := vs_cell hSw.2.1 (i := a) (by omega); rw [HXa.out] at va; have vb := vs_cell hSw.2.1 (i := b) (by omega); rw [HXb.out] at vb; (first | (go_simp; done) | (go_simp; with_reducible rfl)))
  focus assumption
  (try simp only [Act.put, List.setIfInBounds_toArray, List.set_cons_zero, List.set_cons_succ])
  refine' wpAnyL_take (i := 4) (v := _) ?_ ?_ ?_ ?_ ?_ ?_ ?_ ?_ ?_
  rotate_left 2
  focus (simp only [List.getElem?_toArray, List.getElem?_cons_succ, List.getElem?_cons_zero]; rfl)
  focus kernel_rfl
  focus kernel_rfl
  focus kernel_rfl
  focus kernel_rfl
  focus exact (fun _ _ _ h => h)
  refine Or.inl ⟨?_, ?_⟩
  focus (go_simp; done)
  focus (intro w hSw; have m8 := hSw.1.cell 8; unfold rnC at m8; have l1 := hSw.1.lt; have o1 := hSw.2.2.1.cell 1; have o2 := hSw.2.2.1.cell 2; have o3 := hSw.2.2.1.cell 3; have o4 := hSw.2.2.1.cell 4; have va := vs_cell hSw.2.1 (i := a) (by omega); rw [HXa.out] at va; have vb := vs_cell hSw.2.1 (i := b) (by omega); rw [HXb.out] at vb; (first | (go_simp; done) | (go_simp; with_reducible rfl)))
  focus assumption
  (try simp only [Act.put, List.setIfInBounds_toArray, List.set_cons_zero, List.set_cons_succ])
  refine' wpAnyL_take (i := 5) (v := _) ?_ ?_ ?_ ?_ ?_ ?_ ?_ ?_ ?_
  rotate_left 2
  focus (simp only [List.getElem?_toArray, List.getElem?_cons_succ, List.getElem?_cons_zero]; rfl)
  focus kernel_rfl
  focus kernel_rfl
  focus kernel_rfl
  focus kernel_rfl
  focus exact (fun _ _ _ h => h)
  refine Or.inl ⟨?_, ?_⟩
  focus (go_simp; done)
  focus (intro w hSw; have m8 := hSw.1.cell 8; unfold rnC at m8; have l1 := hSw.1.lt; have o1 := hSw.2.2.1.cell 1; have o2 := hSw.2.2.1.cell 2; have o3 := hSw.2.2.1.cell 3; have o4 := hSw.2.2.1.cell 4; have va := vs_cell hSw.2.1 (i := a) (by omega); rw [HXa.out] at va; have vb := vs_cell hSw.2.1 (i := b) (by omega); rw [HXb.out] at vb; (first | (go_simp; done) | (go_simp; with_reducible rfl)))
  focus assumption
  (try simp only [Act.put, List.setIfInBounds_toArray, List.set_cons_zero, List.set_cons_succ])
  refine' wpAnyL_take (i := 6) (v := _) ?_ ?_ ?_ ?_ ?_ ?_ ?_ ?_ ?_
  rotate_left 2
  focus (simp only [List.getElem?_toArray, List.getElem?_cons_succ, List.getElem?_cons_zero]; rfl)
  focus kernel_rfl
  focus kernel_rfl
  focus kernel_rfl
  focus kernel_rfl
  focus exact (fun _ _ _ h => h)
  refine Or.inl ⟨?_, ?_⟩
  focus (go_simp; done)
  focus (intro w hSw; have m8 := hSw.1.cell 8; unfold rnC at m8; have l1 := hSw.1.lt; have o1 := hSw.2.2.1.cell 1; have o2 := hSw.2.2.1.cell 2; have o3 := hSw.2.2.1.cell 3; have o4 := hSw.2.2.1.cell 4; have va := vs_cell hSw.2.1 (i := a) (by omega); rw [HXa.out] at va; have vb := vs_cell hSw.2.1 (i := b) (by omega); rw [HXb.out] at vb; (first | (go_simp; done) | (go_simp; with_reducible rfl)))
  focus assumption
  (try simp only [Act.put, List.setIfInBounds_toArray, List.set_cons_zero, List.set_cons_succ])
  refine' wpAnyL_take (i := 7) (v := _) ?_ ?_ ?_ ?_ ?_ ?_ ?_ ?_ ?_
  rotate_left 2
  focus (simp only [List.getElem?_toArray, List.getElem?_cons_succ, List.getElem?_cons_zero]; rfl)
  focus kernel_rfl
  focus kernel_rfl
  focus kernel_rfl
  focus kernel_rfl
  focus exact (fun _ _ _ h => h)
  refine Or.inl ⟨?_, ?_⟩
  focus (go_simp; done)
  focus (intro w hSw; have m8 := hSw.1.cell 8; unfold rnC at m8; have l1 := hSw.1.lt; have o1 := hSw.2.2.1.cell 1; have o2 := hSw.2.2.1.cell 2; have o3 := hSw.2.2.1.cell 3; have o4 := hSw.2.2.1.cell 4; have va := vs_cell hSw.2.1 (i := a) (by omega); rw [HXa.out] at va; have vb := vs_cell hSw.2.1 (i := b) (by omega); rw [HXb.out] at vb; (first | (go_simp; done) | (go_simp; with_reducible rfl)))
  focus assumption
  (try simp only [Act.put, List.setIfInBounds_toArray, List.set_cons_zero, List.set_cons_succ])
  refine' wpAnyL_take (i := 8) (v := _) ?_ ?_ ?_ ?_ ?_ ?_ ?_ ?_ ?_
  rotate_left 2
  focus (simp only [List.getElem?_toArray, List.getElem?_cons_succ, List.getElem?_cons_zero]; rfl)
  focus kernel_rfl
  focus kernel_rfl
  focus kernel_rfl
  focus kernel_rfl
  focus exact (fun _ _ _ h => h)
  refine Or.inl ⟨?_, ?_⟩
  focus (go_simp; done)
  focus (intro w hSw; have m8 := hSw.1.cell 8; unfold rnC at m8; have l1 := hSw.1.lt; have o1 := hSw.2.2.1.cell 1; have o2 := hSw.2.2.1.cell 2; have o3 := hSw.2.2.1.cell 3; have o4 := hSw.2.2.1.cell 4; have va := vs_cell hSw.2.1 (i := a) (by omega); rw [HXa.out] at va; have vb := vs_cell hSw.2.1 (i := b) (by omega); rw [HXb.out] at vb; (first | (go_simp; done) | (go_simp; with_reducible rfl)))
  focus assumption
  (try simp only [Act.put, List.setIfInBounds_toArray, List.set_cons_zero, List.set_cons_succ])
  refine' wpAnyL_take (i := 9) (v := _) ?_ ?_ ?_ ?_ ?_ ?_ ?_ ?_ ?_
  rotate_left 2
  focus (simp only [List.getElem?_toArray, List.getElem?_cons_succ, List.getElem?_cons_zero]; rfl)
  focus kernel_rfl
  focus kernel_rfl
  focus kernel_rfl
  focus kernel_rfl
  focus exact (fun _ _ _ h => h)
  refine Or.inl ⟨?_, ?_⟩
  focus (go_simp; done)
  focus (intro w hSw; have m8 := hSw.1.cell 8; unfold rnC at m8; have l1 := hSw.1.lt; have o1 := hSw.2.2.1.cell 1; have o2 := hSw.2.2.1.cell 2; have o3 := hSw.2.2.1.cell 3; have o4 := hSw.2.2.1.cell 4; have va := vs_cell hSw.2.1 (i := a) (by omega); rw [HXa.out] at va; have vb := vs_cell hSw.2.1 (i := b) (by omega); rw [HXb.out] at vb; (first | (go_simp; done) | (go_simp; with_reducible rfl)))
  focus assumption
  (try simp only [Act.put, List.setIfInBounds_toArray, List.set_cons_zero, List.set_cons_succ])
  refine' wpAnyL_take (i := 10) (v := _) ?_ ?_ ?_ ?_ ?_ ?_ ?_ ?_ ?_
  rotate_left 2
  focus (simp only [List.getElem?_toArray, List.getElem?_cons_succ, List.getElem?_cons_zero]; rfl)
  focus kernel_rfl
  focus kernel_rfl
  focus kernel_rfl
  focus kernel_rfl
  focus exact (fun _ _ _ h => h)
  refine Or.inl ⟨?_, ?_⟩
  focus (go_simp; done)
  focus (intro w hSw; have m8 := hSw.1.cell 8; unfold rnC at m8; have l1 := hSw.1.lt; have o1 := hSw.2.2.1.cell 1; have o2 := hSw.2.2.1.cell 2; have o3 := hSw.2.2.1.cell 3; have o4 := hSw.2.2.1.cell 4; have va := vs_cell hSw.2.1 (i := a) (by omega); rw [HXa.out] at va; have vb := vs_cell hSw.2.1 (i := b) (by omega); rw [HXb.out] at vb; (first | (go_simp; done) | (go_simp; with_reducible rfl)))
  focus assumption
  (try simp only [Act.put, List.setIfInBounds_toArray, List.set_cons_zero, List.set_cons_succ])
  refine' wpAnyL_take (i := 12) (v := _) ?_ ?_ ?_ ?_ ?_ ?_ ?_ ?_ ?_
  rotate_left 2
  focus (simp only [List.getElem?_toArray, List.getElem?_cons_succ, List.getElem?_cons_zero]; rfl)
  focus kernel_rfl
  focus kernel_rfl
  focus kernel_rfl
  focus kernel_rfl
  focus exact (fun _ _ _ h => h)
  refine Or.inl ⟨?_, ?_⟩
  focus (go_simp; done)
  focus (intro w hSw; have m8 := hSw.1.cell 8; unfold rnC at m8; have l1 := hSw.1.lt; have o1 := hSw.2.2.1.cell 1; have o2 := hSw.2.2.1.cell 2; have o3 := hSw.2.2.1.cell 3; have o4 := hSw.2.2.1.cell 4; have va := vs_cell hSw.2.1 (i := a) (by omega); rw [HXa.out] at va; have vb := vs_cell hSw.2.1 (i := b) (by omega); rw [HXb.out] at vb; (first | (go_simp; done) | (go_simp; with_reducible rfl)))
  focus assumption
  (try simp only [Act.put, List.setIfInBounds_toArray, List.set_cons_zero, List.set_cons_succ])
  refine' wpAnyL_take (i := 13) (v := _) ?_ ?_ ?_ ?_ ?_ ?_ ?_ ?_ ?_
  rotate_left 2
  focus (simp only [List.getElem?_toArray, List.getElem?_cons_succ, List.getElem?_cons_zero]; rfl)
  focus kernel_rfl
  focus kernel_rfl
  focus kernel_rfl
  focus kernel_rfl
  focus exact (fun _ _ _ h => h)
  refine Or.inl ⟨?_, ?_⟩
  focus (go_simp; done)
  focus (intro w hSw; have m8 := hSw.1.cell 8; unfold rnC at m8; have l1 := hSw.1.lt; have o1 := hSw.2.2.1.cell 1; have o2 := hSw.2.2.1.cell 2; have o3 := hSw.2.2.1.cell 3; have o4 := hSw.2.2.1.cell 4; have va := vs_cell hSw.2.1 (i := a) (by omega); rw [HXa.out] at va; have vb := vs_cell hSw.2.1 (i := b) (by omega); rw [HXb.out] at vb; (first | (go_simp; done) | (go_simp; with_reducible rfl)))
  focus assumption
  (try simp only [Act.put, List.setIfInBounds_toArray, List.set_cons_zero, List.set_cons_succ])
  refine' wpAnyL_take (i := 14) (v := _) ?_ ?_ ?_ ?_ ?_ ?_ ?_ ?_ ?_
  rotate_left 2
  focus (simp only [List.getElem?_toArray, List.getElem?_cons_succ, List.getElem?_cons_zero]; rfl)
  focus kernel_rfl
  focus kernel_rfl
  focus kernel_rfl
  focus kernel_rfl
  focus exact (fun _ _ _ h => h)
  refine Or.inl ⟨?_, ?_⟩
  focus (go_simp; done)
  focus (intro w hSw; have m8 := hSw.1.cell 8; unfold rnC at m8; have l1 := hSw.1.lt; have o1 := hSw.2.2.1.cell 1; have o2 := hSw.2.2.1.cell 2; have o3 := hSw.2.2.1.cell 3; have o4 := hSw.2.2.1.cell 4; have va := vs_cell hSw.2.1 (i := a) (by omega); rw [HXa.out] at va; have vb := vs_cell hSw.2.1 (i := b) (by omega); rw [HXb.out] at vb; (first | (go_simp; done) | (go_simp; with_reducible rfl)))
  focus assumption
  (try simp only [Act.put, List.setIfInBounds_toArray, List.set_cons_zero, List.set_cons_succ])
  refine' wpAnyL_take (i := 15) (v := _) ?_ ?_ ?_ ?_ ?_ ?_ ?_ ?_ ?_
  rotate_left 2
  focus (simp only [List.getElem?_toArray, List.getElem?_cons_succ, List.getElem?_cons_zero]; rfl)
  focus kernel_rfl
  focus kernel_rfl
  focus kernel_rfl
  focus kernel_rfl
  focus exact (fun _ _ _ h => h)
  refine Or.inl ⟨?_, ?_⟩
  focus (go_simp; done)
  focus (intro w hSw; have m8 := hSw.1.cell 8; unfold rnC at m8; have l1 := hSw.1.lt; have o1 := hSw.2.2.1.cell 1; have o2 := hSw.2.2.1.cell 2; have o3 := hSw.2.2.1.cell 3; have o4 := hSw.2.2.1.cell 4; have va := vs_cell hSw.2.1 (i := a) (by omega); rw [HXa.out] at va; have vb := vs_cell hSw.2.1 (i := b) (by omega); rw [HXb.out] at vb; (first | (go_simp; done) | (go_simp; with_reducible rfl)))
  focus assumption
  (try simp only [Act.put, List.setIfInBounds_toArray, List.set_cons_zero, List.set_cons_succ])
  refine' wpAnyL_take (i := 16) (v := _) ?_ ?_ ?_ ?_ ?_ ?_ ?_ ?_ ?_
  rotate_left 2
  focus (simp only [List.getElem?_toArray, List.getElem?_cons_succ, List.getElem?_cons_zero]; rfl)
  focus kernel_rfl
  focus kernel_rfl
  focus kernel_rfl
  focus kernel_rfl
  focus exact (fun _ _ _ h => h)
  refine Or.inl ⟨?_, ?_⟩
  focus (go_simp; done)
  focus (intro w hSw; have m8 := hSw.1.cell 8; unfold rnC at m8; have l1 := hSw.1.lt; have o1 := hSw.2.2.1.cell 1; have o2 := hSw.2.2.1.cell 2; have o3 := hSw.2.2.1.cell 3; have o4 := hSw.2.2.1.cell 4; have va := vs_cell hSw.2.1 (i := a) (by omega); rw [HXa.out] at va; have vb := vs_cell hSw.2.1 (i := b) (by omega); rw [HXb.out] at vb; (first | (go_simp; done) | (go_simp; with_reducible rfl)))
  focus assumption
  (try simp only [Act.put, List.setIfInBounds_toArray, List.set_cons_zero, List.set_cons_succ])
  refine' wpAnyL_take (i := 17) (v := _) ?_ ?_ ?_ ?_ ?_ ?_ ?_ ?_ ?_
  rotate_left 2
  focus (simp only [List.getElem?_toArray, List.getElem?_cons_succ, List.getElem?_cons_zero]; rfl)
  focus kernel_rfl
  focus kernel_rfl
  focus kernel_rfl
  focus kernel_rfl
  focus exact (fun _ _ _ h => h)
  refine Or.inl ⟨?_, ?_⟩
  focus (go_simp; done)
  focus (intro w hSw; have m8 := hSw.1.cell 8; unfold rnC at m8; have l1 := hSw.1.lt; have o1 := hSw.2.2.1.cell 1; have o2 := hSw.2.2.1.cell 2; have o3 := hSw.2.2.1.cell 3; have o4 := hSw.2.2.1.cell 4; have va := vs_cell hSw.2.1 (i := a) (by omega); rw [HXa.out] at va; have vb := vs_cell hSw.2.1 (i := b) (by omega); rw [HXb.out] at vb; (first | (go_simp; done) | (go_simp; with_reducible rfl)))
  focus assumption
  (try simp only [Act.put, List.setIfInBounds_toArray, List.set_cons_zero, List.set_cons_succ])
  refine' wpAnyL_take (i := 18) (v := _) ?_ ?_ ?_ ?_ ?_ ?_ ?_ ?_ ?_
  rotate_left 2
  focus (simp only [List.getElem?_toArray, List.getElem?_cons_succ, List.getElem?_cons_zero]; rfl)
  focus kernel_rfl
  focus kernel_rfl
  focus kernel_rfl
  focus kernel_rfl
  focus exact (fun _ _ _ h => h)
  refine Or.inl ⟨?_, ?_⟩
  focus (go_simp; done)
  focus (intro w hSw; have m8 := hSw.1.cell 8; unfold rnC at m8; have l1 := hSw.1.lt; have o1 := hSw.2.2.1.cell 1; have o2 := hSw.2.2.1.cell 2; have o3 := hSw.2.2.1.cell 3; have o4 := hSw.2.2.1.cell 4; have va := vs_cell hSw.2.1 (i := a) (by omega); rw [HXa.out] at va; have vb := vs_cell hSw.2.1 (i := b) (by omega); rw [HXb.out] at vb; (first | (go_simp; done) | (go_simp; with_reducible rfl)))
  focus assumption
  (try simp only [Act.put, List.setIfInBounds_toArray, List.set_cons_zero, List.set_cons_succ])
  refine' wpAnyL_take (i := 19) (v := _) ?_ ?_ ?_ ?_ ?_ ?_ ?_ ?_ ?_
  rotate_left 2
  focus (simp only [List.getElem?_toArray, List.getElem?_cons_succ, List.getElem?_cons_zero]; rfl)
  focus kernel_rfl
  focus kernel_rfl
  focus kernel_rfl
  focus kernel_rfl
  focus exact (fun _ _ _ h => h)
  refine Or.inl ⟨?_, ?_⟩
  focus (go_simp; done)
  focus (intro w hSw; have m8 := hSw.1.cell 8; unfold rnC at m8; have l1 := hSw.1.lt; have o1 := hSw.2.2.1.cell 1; have o2 := hSw.2.2.1.cell 2; have o3 := hSw.2.2.1.cell 3; have o4 := hSw.2.2.1.cell 4; have va := vs_cell hSw.2.1 (i := a) (by omega); rw [HXa.out] at va; have vb := vs_cell hSw.2.1 (i := b) (by omega); rw [HXb.out] at vb; (first | (go_simp; done) | (go_simp; with_reducible rfl)))
  focus assumption
  (try simp only [Act.put, List.setIfInBounds_toArray, List.set_cons_zero, List.set_cons_succ])
  refine' wpAnyL_one (i := 11) ?_ ?_ ?_ (fun K hK => ?_)
  rotate_left
  focus kernel_rfl
  focus kernel_rfl
  focus (simp only [List.getElem?_toArray, List.getElem?_cons_succ, List.getElem?_cons_zero]; rfl)
  go_simp
  (go_at_call 52; refine (rplace_any xa (ar.length : Int) HXw.out ⟨by omega, by omega⟩ _).mono ?_; rintro e u1 ⟨rfl, rfl⟩; rw [HQp.out])
  refine hK.out _ _ (hHeld) (fun hHeld => ?_)
  clear hK K
  (try simp only [Act.put, List.setIfInBounds_toArray, List.set_cons_zero, List.set_cons_succ])
  refine' wpAnyL_take (i := 20) (v := _) ?_ ?_ ?_ ?_ ?_ ?_ ?_ ?_ ?_
  rotate_left 2
  focus (simp only [List.getElem?_toArray, List.getElem?_cons_succ, List.getElem?_cons_zero]; rfl)
  focus kernel_rfl
  focus kernel_rfl
  focus kernel_rfl
  focus kernel_rfl
  focus exact (fun _ _ _ h => h)
  refine Or.inl ⟨?_, ?_⟩
  focus (go_simp; done)
  focus (intro w hSw; have m8 := hSw.1.cell 8; unfold rnC at m8; have l1 := hSw.1.lt; have o1 := hSw.2.2.1.cell 1; have o2 := hSw.2.2.1.cell 2; have o3 := hSw.2.2.1.cell 3; have o4 := hSw.2.2.1.cell 4; have va := vs_cell hSw.2.1 (i := a) (by omega); rw [HXa.out] at va; have vb := vs_cell hSw.2.1 (i := b) (by omega); rw [HXb.out] at vb; (first | (go_simp; done) | (go_simp; with_reducible rfl)))
  focus assumption
  (try simp only [Act.put, List.setIfInBounds_toArray, List.set_cons_zero, List.set_cons_succ])
  refine' wpAnyL_last ?_ ?_ (fun K hK => ?_)
  rotate_left
  focus kernel_rfl
  focus (simp only [List.getElem?_toArray, List.getElem?_cons_succ, List.getElem?_cons_zero]; rfl)
  have r0 := own_num hHeld.2.2.2 hq1
  have f0 := own_fz hHeld.2.2.2 q
  have hlo := (hHeld.2.2.2.lt ga rfl).2
  go_simp
  refine hK.out _ _ ?_
  clear hK K
  (try simp only [Act.put, List.setIfInBounds_toArray, List.set_cons_zero, List.set_cons_succ])
  refine wpAny_done (by kernel_rfl) ?_ _
  have HR1 := Lib.hid (show Rn lo Rb Vb x (.slice (some ⟨gv, 0, none⟩) s.ars.length cv) us hv { s with ars := s.ars.set i ((s.ars.getD i []).set q xb) } steps left (W1.setCell ⟨ga, q, none⟩ (.int .i64 xb)).drew from (HB1.out.1.arrTo xb HUa.out (by rw [HAr.out]; exact hq1)).below (below_drewN _ _ 1))
  have HM1 := Lib.hid (show Mv Rb Vb us w (W1.setCell ⟨ga, q, none⟩ (.int .i64 xb)).drew from (HB1.out.2.2.1.put (p := ⟨ga, q, none⟩) (.inr (.inr (.inl ⟨_, List.mem_of_getElem? HUa.out, rfl⟩))) (.int .i64 xb)).trans (Mv.of_below (below_drewN _ _ 1)))
  generalize hW : (World.setCell W1 ⟨ga, q, none⟩ (.int .i64 xb)).drew = W2 at HR1 HM1 ⊢
  clear hW r0 f0 hlo HB1
  clear hHeld
  have c := HR1.out.rb.cell 11
  unfold rnC at c
  have f := HR1.out.rb.frozen 11
  have hlt := HR1.out.rb.lt
  have HN := Lib.hid (HR1.out.stepsTo (steps + 1))
  have HM2 := Lib.hid (HM1.out.put (p := ⟨Rb, 11, none⟩) (.inl rfl) (.int .i64 (steps + 1)))
  clear HR1 HM1
  go_wp2
  go_ret
  refine ⟨rfl, ?_, HM2.out⟩
  rw [HAct.out]
  exact HN.out
theorem rdo_any (lo Rb Vb : Nat) (x : G8) (va : Value) (us : List Value) (hv : Value) (s : Tr.St) (steps left : Int) (hs : 0 ≤ steps ∧ steps ≤ 100000) (o : Gr.Op) (V A : Nat) (hw : Tr.Wf V A s) (ho : Tr.Ok V A o) (w : World) (h : Rn lo Rb Vb x va us hv s steps left w) :
    Calls Try.prog 28 #[.pointer (some ⟨Rb, 0, none⟩), .agg #[.int .i64 o.kind, .int .i64 o.dst, .int .i64 o.a, .int .i64 o.b, .int .i64 o.imm]] w (DoPost lo Rb Vb x va us hv (Tr.act s o) steps left w) := by
  obtain ⟨k, d, a, b, i⟩ := o
  have hk := ho.kind
  simp only at hk
  have h5 : k = 1 ∨ k = 2 ∨ k = 3 ∨ k = 4 ∨ k = 5 := by omega
  rcases h5 with rfl | rfl | rfl | rfl | rfl
  · exact rdo_1 lo Rb Vb x va us hv s steps left hs d a b i V A hw ho w h
  · exact rdo_2 lo Rb Vb x va us hv s steps left hs d a b i V A hw ho w h
  · exact rdo_3 lo Rb Vb x va us hv s steps left hs d a b i V A hw ho w h
  · exact rdo_4 lo Rb Vb x va us hv s steps left hs d a b i V A hw ho w h
  · exact rdo_5 lo Rb Vb x va us hv s steps left hs d a b i V A hw ho w h
end Go.Proofs.Ytojnhdkclabkgaa
