/- The specification of layer 14: a block, folded. No condition. -/
import Derived.Test.YtojflhkmonicoaaGreatFoRefH
import Derived.Test.YtojflhkmonicoaaGreatGrOwn
import Derived.Test.YtojflhkmonicoaaGreatStFresh
namespace Go.Proofs.YtojflhkmonicoaaGreat
open Go.RowKit
set_option linter.unusedVariables false
set_option linter.unusedSimpArgs false
attribute [local go_sem] y_undef
/-- The operations, the first k folded. -/
def Fo.mix (l : List Gr.Op) (k : Nat) : List Gr.Op := (List.range l.length).map fun i => if i < k then Fo.opAt l i else l.getD i Gr.op0
theorem mix_len (l : List Gr.Op) (k : Nat) : (Fo.mix l k).length = l.length := by unfold Fo.mix; simp
theorem mix_get {l : List Gr.Op} {k i : Nat} (hi : i < l.length) : (Fo.mix l k).getD i Gr.op0 = if i < k then Fo.opAt l i else l.getD i Gr.op0 := by
  unfold Fo.mix
  rw [List.getD, List.getElem?_map, List.getElem?_range hi]
  rfl
theorem ops_ext {l l' : List Gr.Op} (hl : l.length = l'.length) (h : ∀ i, i < l.length → l.getD i Gr.op0 = l'.getD i Gr.op0) : l = l' := by
  apply List.ext_getElem hl
  intro i h1 h2
  have := h i h1
  simpa [List.getD, List.getElem?_eq_getElem h1, List.getElem?_eq_getElem h2] using this
theorem mix_zero (l : List Gr.Op) : Fo.mix l 0 = l := ops_ext (mix_len _ _) fun i hi => by
  rw [mix_len] at hi
  rw [mix_get hi, if_neg (Nat.not_lt_zero _)]
theorem mix_all (l : List Gr.Op) : Fo.mix l l.length = Fo.ops l := by
  unfold Fo.mix Fo.ops
  apply List.map_congr_left
  intro i hi
  rw [if_pos (List.mem_range.1 hi)]
theorem mix_set {l : List Gr.Op} {k : Nat} (hk : k < l.length) : (Fo.mix l k).set k (Fo.opAt l k) = Fo.mix l (k + 1) := ops_ext (by rw [List.length_set, mix_len, mix_len]) fun i hi => by
  rw [List.length_set, mix_len] at hi
  rw [mix_get hi, List.getD, List.getElem?_set]
  by_cases e : k = i
  · subst e
    rw [if_pos rfl, if_pos (by rw [mix_len]; exact hi), if_pos (Nat.lt_succ_self _)]
    rfl
  · have hm := mix_get (k := k) hi
    rw [List.getD] at hm
    rw [if_neg e, hm]
    by_cases h1 : i < k
    · rw [if_pos h1, if_pos (by omega)]
    · rw [if_neg h1, if_neg (by omega)]
section
variable {u : World} {base sz n cap g : Nat} {e : TypeId} {xs : List Value}
theorem own_cellv (h : u.ownsRow base e sz (.slice (some ⟨g, 0, none⟩) n cap) n xs) {j : Nat} {x : Value} (hj : xs[j]? = some x) : u.cell? ⟨g, j, none⟩ = some x := by
  have := h.1
  have hl := (List.getElem?_eq_some_iff.1 hj).1
  rw [h.cellAt j (by omega), hj]
theorem own_bk (h : u.ownsRow base e sz (.slice (some ⟨g, 0, none⟩) n cap) n xs) : ∃ cur, Bk u g e cur := by
  rcases h.2 with ⟨h0, _⟩ | ⟨g', cap', cur, hs, hb, hg, _⟩
  · injection h0 with h0; exact absurd h0 (by simp)
  · injection hs with h1 _ _
    injection h1 with h1
    injection h1 with h1 _ _
    subst h1
    exact ⟨cur, hg⟩
theorem own_frz (h : u.ownsRow base e sz (.slice (some ⟨g, 0, none⟩) n cap) n xs) (j : Nat) : u.frozen? ⟨g, j, none⟩ = false := by
  obtain ⟨cur, hb⟩ := own_bk h
  exact hb.frozen j
theorem own_setc (h : u.ownsRow base e sz (.slice (some ⟨g, 0, none⟩) n cap) n xs) (j : Nat) (z : Value) : (u.setCell ⟨g, j, none⟩ z).ownsRow base e sz (.slice (some ⟨g, 0, none⟩) n cap) n (xs.set j z) := by
  refine ⟨by simpa using h.1, .inr ?_⟩
  rcases h.2 with ⟨h0, _⟩ | ⟨g', cap', cur, hs, hb, hg, hc, hm, hsz, ht⟩
  · injection h0 with h0; exact absurd h0 (by simp)
  · injection hs with h1 h2 h3
    injection h1 with h1
    injection h1 with h1 _ _
    subst h1 h3
    refine ⟨g, cap, cur.setIfInBounds j z, rfl, hb, ?_, hc, hm, by simpa using hsz, ?_⟩
    · simp [World.setCell, Array.getElem?_modify, hg]
    · rw [Array.toList_setIfInBounds, List.take_set, ht]
theorem own_op_set {l : List Gr.Op} (h : u.ownsRow base 42 5 (.slice (some ⟨g, 0, none⟩) n cap) n (l.flatMap opCells)) (k : Nat) (o : Gr.Op) :
    (((((u.setCell ⟨g, k * 5, none⟩ (.int .i64 o.kind)).setCell ⟨g, k * 5 + 1, none⟩ (.int .i64 o.dst)).setCell ⟨g, k * 5 + 2, none⟩ (.int .i64 o.a)).setCell ⟨g, k * 5 + 3, none⟩ (.int .i64 o.b)).setCell ⟨g, k * 5 + 4, none⟩ (.int .i64 o.imm)).ownsRow base 42 5 (.slice (some ⟨g, 0, none⟩) n cap) n ((l.set k o).flatMap opCells) := by
  have := own_setc (own_setc (own_setc (own_setc (own_setc h (k * 5) (.int .i64 o.kind)) (k * 5 + 1) (.int .i64 o.dst)) (k * 5 + 2) (.int .i64 o.a)) (k * 5 + 3) (.int .i64 o.b)) (k * 5 + 4) (.int .i64 o.imm)
  rwa [set_op] at this
theorem own_op_cells {l : List Gr.Op} (h : u.ownsRow base 42 5 (.slice (some ⟨g, 0, none⟩) n cap) n (l.flatMap opCells)) {k : Nat} (hk : k < l.length) : u.cell? ⟨g, k * 5, none⟩ = some (.int .i64 (l.getD k Gr.op0).kind) ∧ u.cell? ⟨g, k * 5 + 1, none⟩ = some (.int .i64 (l.getD k Gr.op0).dst) ∧
    u.cell? ⟨g, k * 5 + 2, none⟩ = some (.int .i64 (l.getD k Gr.op0).a) ∧ u.cell? ⟨g, k * 5 + 3, none⟩ = some (.int .i64 (l.getD k Gr.op0).b) ∧ u.cell? ⟨g, k * 5 + 4, none⟩ = some (.int .i64 (l.getD k Gr.op0).imm) := by
  have hf : ∀ j x, (opCells (l.getD k Gr.op0))[j]? = some x → u.cell? ⟨g, k * 5 + j, none⟩ = some x := fun j x hx => own_cellv h (flat_cell opCells 5 (fun _ => rfl) l k j _ _ (getD_some Gr.op0 hk) hx)
  exact ⟨hf 0 _ rfl, hf 1 _ rfl, hf 2 _ rfl, hf 3 _ rfl, hf 4 _ rfl⟩
end
section
variable {w u u' : World} {r : Option Nat}
theorem grown_below (h : w.grownBy u r) (hb : Below u.heap.size u u') : w.grownBy u' r := ⟨hb.os.trans h.os, hb.tape.trans h.tape, hb.output.trans h.output, Nat.le_trans h.size hb.size, fun k hk hr => (hb.block k (Nat.lt_of_lt_of_le hk h.size)).trans (h.block k hk hr)⟩
theorem grown_setc (h : w.grownBy u r) {p : Addr} (hp : w.heap.size ≤ p.block ∨ r = some p.block) (x : Value) : w.grownBy (u.setCell p x) r := by
  have hB : Below 0 u _ := (Below.refl 0 u).setCell (p := p) (Nat.zero_le _) x
  refine ⟨hB.os.trans h.os, hB.tape.trans h.tape, hB.output.trans h.output, by rw [World.size_setCell]; exact h.size, fun k hk hr => (Below.heap_setCell _ _ _ k (fun e => ?_)).trans (h.block k hk hr)⟩
  subst e
  rcases hp with h1 | h1
  · omega
  · exact hr h1.symm
theorem grown_mt {b1 b2 b3 : Nat} (h : w.grownBy u r) (hm : Mt b1 b2 b3 u u') (h1 : w.heap.size ≤ b1) (h2 : w.heap.size ≤ b2) (h3 : w.heap.size ≤ b3) : w.grownBy u' r := ⟨hm.os.trans h.os, hm.tape.trans h.tape, hm.output.trans h.output, Nat.le_trans h.size hm.size, fun k hk hr => (hm.block k (Nat.lt_of_lt_of_le hk h.size) (by omega) (by omega) (by omega)).trans (h.block k hk hr)⟩
theorem Mt.own {b1 b2 b3 base sz n : Nat} {e : TypeId} {v : Value} {xs : List Value} (hm : Mt b1 b2 b3 u u') (h : u.ownsRow base e sz v n xs) (hv : ∀ k, v.ownBlock = some k → k ≠ b1 ∧ k ≠ b2 ∧ k ≠ b3) : u'.ownsRow base e sz v n xs := by
  refine ⟨h.1, ?_⟩
  rcases h.2 with hn | ⟨g, cap, cur, rfl, hb, hgg, rest⟩
  · exact .inl hn
  · obtain ⟨a1, a2, a3⟩ := hv g rfl
    exact .inr ⟨g, cap, cur, rfl, hb, (hm.block g (h.lt g rfl).2 a1 a2 a3).trans hgg, rest⟩
end
theorem info_boo : (Tryz.prog.info? 4).map (fun i => (i.zero, i.size, i.bytes)) = some (some (.bool false), 1, 1) := by kernel_rfl
theorem info_int : (Tryz.prog.info? 3).map (fun i => (i.zero, i.size, i.bytes)) = some (some (.int .i64 0), 1, 8) := by kernel_rfl
theorem slRow_one (n : Nat) (z : Value) (hz : z.cells = #[z]) : madeCells z.cells n = slRow n (fun _ => z) := by
  rw [hz]
  unfold madeCells
  apply Array.ext
  · simp [slRow_size]
  · intro a ha hb
    have h := slRow_cell n (fun _ => z) (show a < n by simpa using ha)
    rw [Array.getElem?_eq_getElem hb] at h
    injection h with h
    rw [h, Array.getElem_map, Array.getElem_range]
    show (#[z])[a % 1]! = _
    rw [Nat.mod_one]
    rfl
theorem make_bools (n : Nat) (hn : n ≤ 1000) (u : World) : (Instr.makeSlice 65 (.int .i64 (n : Int)) (.int .i64 (n : Int))).run Tryz.prog u = .ok (.slice (some ⟨u.heap.size, 0, none⟩) n n) (u.alloc (.cells (slRow n (fun _ => .bool false)) 4)) := by
  obtain ⟨i, hi, hz, hs, hby⟩ := info_parts info_boo
  have h := run_make (P := Tryz.prog) u 65 4 i _ Tryz.underlying65 hi hz .i64 .i64 n n (by omega) (by omega) (by rw [hby]; omega) (by omega)
  rw [h, hs, Int.toNat_natCast, Nat.mul_one, slRow_one _ _ (by kernel_rfl)]
theorem make_ints (n : Nat) (hn : n ≤ 1000) (u : World) : (Instr.makeSlice 38 (.int .i64 (n : Int)) (.int .i64 (n : Int))).run Tryz.prog u = .ok (.slice (some ⟨u.heap.size, 0, none⟩) n n) (u.alloc (.cells (slRow n (fun _ => .int .i64 0)) 3)) := by
  obtain ⟨i, hi, hz, hs, hby⟩ := info_parts info_int
  have h := run_make (P := Tryz.prog) u 38 3 i _ Tryz.underlying38 hi hz .i64 .i64 n n (by omega) (by omega) (by rw [hby]; omega) (by omega)
  rw [h, hs, Int.toNat_natCast, Nat.mul_one, slRow_one _ _ (by kernel_rfl)]
/-- The boxes of block's argument and result; of older blocks only one may have turned. -/
structure Bb (w : World) (oc zc : Array Value) (r : Option Nat) (u : World) : Prop where
  gr : w.grownBy u r
  ob : Bk u w.heap.size 40 oc
  rb : Bk u (w.heap.size + 1) 40 zc
theorem Bb.below {w u u' : World} {oc zc : Array Value} {r : Option Nat} (h : Bb w oc zc r u) (hb : Below u.heap.size u u') : Bb w oc zc r u' := ⟨grown_below h.gr hb, h.ob.below hb, h.rb.below hb⟩
theorem Bb.mt {w u u' : World} {oc zc : Array Value} {r : Option Nat} {b1 b2 b3 : Nat} (h : Bb w oc zc r u) (hm : Mt b1 b2 b3 u u') (h1 : w.heap.size + 1 < b1) (h2 : w.heap.size + 1 < b2) (h3 : w.heap.size + 1 < b3) : Bb w oc zc r u' := ⟨grown_mt h.gr hm (by omega) (by omega) (by omega), hm.bk h.ob (by omega) (by omega) (by omega), hm.bk h.rb (by omega) (by omega) (by omega)⟩
/-- A store into the row that may turn, or behind the boxes. -/
theorem Bb.put {w u : World} {oc zc : Array Value} {r : Option Nat} (h : Bb w oc zc r u) {p : Addr} (hp : w.heap.size + 1 < p.block ∨ (r = some p.block ∧ p.block < w.heap.size)) (x : Value) : Bb w oc zc r (u.setCell p x) := ⟨grown_setc h.gr (hp.imp (fun h => by omega) (fun h => h.1)) x, h.ob.far (by omega) x, h.rb.far (by omega) x⟩
theorem ob_eq {g q n c : Nat} (h : (Value.slice (some ⟨g, 0, none⟩) n c).ownBlock = some q) : g = q := by simpa [Value.ownBlock] using h
theorem Bb.box {w u : World} {oc zc : Array Value} {r : Option Nat} (h : Bb w oc zc r u) (i : Nat) (x : Value) (oc' : Array Value) (hf : oc.setIfInBounds i x = oc') : Bb w oc' zc r (u.setCell ⟨w.heap.size, i, none⟩ x) := by
  subst hf
  exact ⟨grown_setc h.gr (.inl (Nat.le_refl _)) x, h.ob.set i x, h.rb.far (by show w.heap.size + 1 ≠ w.heap.size; omega) x⟩
theorem Bb.res {w u : World} {oc zc : Array Value} {r : Option Nat} (h : Bb w oc zc r u) (i : Nat) (x : Value) : Bb w oc (zc.setIfInBounds i x) r (u.setCell ⟨w.heap.size + 1, i, none⟩ x) :=
  ⟨grown_setc h.gr (.inl (Nat.le_succ _)) x, h.ob.far (by show w.heap.size ≠ w.heap.size + 1; omega) x, h.rb.set i x⟩
/-- The facts while the row of copies is being set to -1. -/
structure Rz (V Bf Kb Wb Ob lo : Nat) (k : Nat) (u : World) : Prop where
  fb : Bk u Bf 89 #[.slice (some ⟨Kb, 0, none⟩) V V, .slice (some ⟨Wb, 0, none⟩) V V, .slice (some ⟨Ob, 0, none⟩) V V]
  kn : Bk u Kb 4 (slRow V fun _ => .bool false)
  wd : Bk u Wb 3 (slRow V fun _ => .int .i64 0)
  cp : Bk u Ob 3 (slRow V fun v => .int .i64 (if v < k then -1 else 0))
  ap : Bf ≠ Kb ∧ Bf ≠ Wb ∧ Bf ≠ Ob ∧ Kb ≠ Wb ∧ Kb ≠ Ob ∧ Wb ≠ Ob
  lo : lo < Bf ∧ lo < Kb ∧ lo < Wb ∧ lo < Ob
theorem Rz.below {V Bf Kb Wb Ob lo k : Nat} {u u' : World} (h : Rz V Bf Kb Wb Ob lo k u) (hb : Below u.heap.size u u') : Rz V Bf Kb Wb Ob lo k u' := ⟨h.fb.below hb, h.kn.below hb, h.wd.below hb, h.cp.below hb, h.ap, h.lo⟩
theorem Rz.step {V Bf Kb Wb Ob lo k : Nat} {u : World} (h : Rz V Bf Kb Wb Ob lo k u) : Rz V Bf Kb Wb Ob lo (k + 1) (u.setCell ⟨Ob, k, none⟩ (.int .i64 (-1))) := by
  obtain ⟨a1, a2, a3, a4, a5, a6⟩ := h.ap
  refine ⟨h.fb.far (p := ⟨Ob, k, none⟩) a3 _, h.kn.far (p := ⟨Ob, k, none⟩) a5 _, h.wd.far (p := ⟨Ob, k, none⟩) a6 _, ?_, h.ap, h.lo⟩
  have := h.cp.set k (.int .i64 (-1))
  rw [slRow_set V _ (fun v => .int .i64 (if v < k + 1 then -1 else 0)) k (.int .i64 (-1)) (fun j hj => by
    by_cases e : j = k
    · subst e; simp
    · have : (j < k + 1) ↔ (j < k) := by omega
      simp [e, this])] at this
  exact this
theorem Rz.rf {V Bf Kb Wb Ob lo : Nat} {u : World} (h : Rz V Bf Kb Wb Ob lo V u) : Rf V Bf Kb Wb Ob Fo.s0 (fun _ => 0) u := by
  refine ⟨h.fb, h.kn, h.wd, ?_, fun v n hv hn => (by cases hn), h.ap⟩
  have := h.cp
  rw [slRow_congr (f' := fun v => .int .i64 ((Fo.s0.cp (v : Int)).getD (-1))) (fun v hv => by rw [if_pos hv]; rfl)] at this
  exact this
theorem blk_none {b : Gr.Blk} {cd x : Nat} (h2 : b.next.length = 2) (hc : b.cond = (cd : Int)) (hx : Fo.use (Fo.runs b.ops b.ops.length) (cd : Int) = (x : Int)) (hw : (Fo.runs b.ops b.ops.length).wd (x : Int) = none) : Fo.blk b = ⟨Fo.ops b.ops, (x : Int), b.next⟩ := by
  unfold Fo.blk
  rw [hc]
  simp only [hx, hw, if_pos h2]
theorem blk_some {b : Gr.Blk} {cd x : Nat} {n : Int} (h2 : b.next.length = 2) (hc : b.cond = (cd : Int)) (hx : Fo.use (Fo.runs b.ops b.ops.length) (cd : Int) = (x : Int)) (hw : (Fo.runs b.ops b.ops.length).wd (x : Int) = some n) : Fo.blk b = ⟨Fo.ops b.ops, 0, [if n = 0 then b.next.getD 1 0 else b.next.getD 0 0]⟩ := by
  unfold Fo.blk
  rw [hc]
  simp only [hx, hw, if_pos h2]
/-- What block answers. -/
def RblkPost (b : Gr.Blk) (base : Nat) (A1 : Option Addr) (c1 : Nat) (vn : Value) (w : World) (e : Ending) (w' : World) : Prop :=
  ∃ vn', e = .returned (.agg #[.slice A1 b.ops.length c1, .int .i64 (Fo.blk b).cond, vn']) ∧ w'.ownsRow base 42 5 (.slice A1 b.ops.length c1) b.ops.length ((Fo.blk b).ops.flatMap opCells) ∧ w.grownBy w' (Value.slice A1 b.ops.length c1).ownBlock ∧
    ((vn' = vn ∧ (Fo.blk b).next = b.next) ∨ w'.ownsRow w.heap.size 3 1 vn' (Fo.blk b).next.length ((Fo.blk b).next.map (.int .i64)))
set_option maxHeartbeats 4000000 in
set_option maxRecDepth 100000 in
theorem rblock_any (V : Nat) (b : Gr.Blk) (base base' : Nat) (A1 A2 : Option Addr) (c1 c2 : Nat) (w : World) (hV : V ≤ 1000) (hn : b.ops.length ≤ 1000) (hg : ∀ k, k < b.ops.length → Fo.Good V (b.ops.getD k Gr.op0)) (hc : b.next.length = 2 → 0 ≤ b.cond ∧ b.cond < V)
    (ho : w.ownsRow base 42 5 (.slice A1 b.ops.length c1) b.ops.length (b.ops.flatMap opCells)) (hx : w.ownsRow base' 3 1 (.slice A2 b.next.length c2) b.next.length (b.next.map (.int .i64))) :
    Calls Tryz.prog 29 #[.int .i64 (V : Int), .agg #[.slice A1 b.ops.length c1, .int .i64 b.cond, .slice A2 b.next.length c2]] w (RblkPost b base A1 c1 (.slice A2 b.next.length c2) w) := by
  have HO := Lib.hid ho
  have HX := Lib.hid hx
  have HG := Lib.hid hg
  have HC := Lib.hid hc
  have HN := Lib.hid hn
  have hmb := make_bools V hV
  have hmi := make_ints V hV
  obtain ⟨r, hr⟩ : ∃ r, (Value.slice A1 b.ops.length c1).ownBlock = r := ⟨_, rfl⟩
  have HR := Lib.hid hr
  have HRl := Lib.hid (show ∀ k, r = some k → k < w.heap.size from fun k hk => (ho.lt k (hr.trans hk)).2)
  clear ho hx hg hc hn hr
  have HB := Lib.hid (show Bb w #[.slice A1 b.ops.length c1, .int .i64 b.cond, .slice A2 b.next.length c2] #[.slice none 0 0, .int .i64 0, .slice none 0 0] r ((w.alloc (.cells #[.slice A1 b.ops.length c1, .int .i64 b.cond, .slice A2 b.next.length c2] 40)).alloc (.cells #[.slice none 0 0, .int .i64 0, .slice none 0 0] 40)) from ⟨grown_below (World.grownBy.refl w _) (bla (bla (Below.refl _ _) _) _), (Bk.new w _ _).below (bla (Below.refl _ _) _), by
    have h := Bk.new (w.alloc (.cells #[.slice A1 b.ops.length c1, .int .i64 b.cond, .slice A2 b.next.length c2] 40)) 40 #[.slice none 0 0, .int .i64 0, .slice none 0 0]
    rw [size_alloc] at h
    exact h⟩)
  have HOU := Lib.hid (show ((w.alloc (.cells #[.slice A1 b.ops.length c1, .int .i64 b.cond, .slice A2 b.next.length c2] 40)).alloc (.cells #[.slice none 0 0, .int .i64 0, .slice none 0 0] 40)).ownsRow base 42 5 (.slice A1 b.ops.length c1) b.ops.length (b.ops.flatMap opCells) from own_below HO.out (bla (bla (Below.refl _ _) _) _))
  go_enter Tryz.func29, Tryz.ntmps29
  go_upto_region 1 with fail
  generalize hW : World.alloc _ (.cells #[.slice none 0 0, .int .i64 0, .slice none 0 0] 40) = U at HB HOU ⊢
  clear hW
  obtain ⟨u0, hu0⟩ : ∃ u0, U.drew = u0 := ⟨_, rfl⟩
  have HU0 := Lib.hid hu0
  have hL : Below U.heap.size U u0 := by subst hu0; exact below_drewN _ _ 1
  have hsz := HB.out.rb.lt
  clear hu0
  refine wp_region_held_drew (S := fun _ => True) (by kernel_rfl) trivial (fun hHeld => ?_)
  rw [HU0.out]
  refine' wpAnyH_take (i := 0) (v := _) ?_ ?_ ?_ ?_ ?_ ?_ ?_ ?_
  rotate_left 2; (simp only [gA, gB, gC]; rfl); kernel_rfl; kernel_rfl; kernel_rfl; exact fun _ _ _ h => h; refine Or.inl ⟨?_, ?_⟩; focus (go_simp; done)
  focus (intro w hSw; (go_simp <;> with_reducible rfl))
  assumption; (try simp only [Act.put, gD, gE, gF])
  refine' wpAnyH_take (i := 2) (v := _) ?_ ?_ ?_ ?_ ?_ ?_ ?_ ?_
  rotate_left 2; (simp only [gA, gB, gC]; rfl); kernel_rfl; kernel_rfl; kernel_rfl; exact fun _ _ _ h => h; refine Or.inl ⟨?_, ?_⟩; focus (go_simp; done)
  focus (intro w hSw; (go_simp <;> with_reducible rfl))
  assumption; (try simp only [Act.put, gD, gE, gF])
  refine' wpAnyH_take (i := 4) (v := _) ?_ ?_ ?_ ?_ ?_ ?_ ?_ ?_
  rotate_left 2; (simp only [gA, gB, gC]; rfl); kernel_rfl; kernel_rfl; kernel_rfl; exact fun _ _ _ h => h; refine Or.inl ⟨?_, ?_⟩; focus (go_simp; done)
  focus (intro w hSw; (go_simp <;> with_reducible rfl))
  assumption; (try simp only [Act.put, gD, gE, gF])
  refine' mh3 (Pre := fun (Kb Wb Ob : Nat) (w' : World) => Below U.heap.size U w' ∧ U.heap.size ≤ Kb ∧ U.heap.size ≤ Wb ∧ U.heap.size ≤ Ob ∧ Bk w' Kb 4 (slRow V (fun _ => .bool false)) ∧ Bk w' Wb 3 (slRow V (fun _ => .int .i64 0)) ∧ Bk w' Ob 3 (slRow V (fun _ => .int .i64 0)) ∧ Kb ≠ Wb ∧ Kb ≠ Ob ∧ Wb ≠ Ob) _ #[true, true, true, true, true, true, false, false, false] _ (fun HK1 => ?ha1) (fun Kb Wb Ob w' hpre => ?hb1)
  case ha1 =>
    refine wpAnyH_ready (rs := [1, 3, 5]) (by kernel_rfl) (by simp) ?_
    refine' AllReadyH.cons ?_ (fun K hK => ?_) ?_
    rotate_left
    focus (simp only [gA, gB, gC]; rfl)
    focus
      go_simp
      have hb := (Below.refl u0.heap.size u0).alloc (Nat.le_refl _) (.cells (slRow V (fun _ => .bool false)) 4)
      refine hK.out _ _ trivial (fun hHeld => ?_)
      clear hK K
      (try simp only [Act.put, gD, gE, gF])
      have hl1 := hL.size
      replace hL := blt hL hb
      have hk1 := Bk.new u0 4 (slRow V (fun _ => .bool false))
      clear hb
      generalize u0.alloc (.cells (slRow V (fun _ => .bool false)) 4) = v1 at *
      generalize u0.heap.size = Kb at *
      refine wpAnyH_ready (rs := [3, 5]) (by kernel_rfl) (by simp) ?_
      refine' AllReadyH.cons ?_ (fun K hK => ?_) ?_
      rotate_left
      focus (simp only [gA, gB, gC]; rfl)
      focus
        go_simp
        have hb := (Below.refl v1.heap.size v1).alloc (Nat.le_refl _) (.cells (slRow V (fun _ => .int .i64 0)) 3)
        refine hK.out _ _ trivial (fun hHeld => ?_)
        clear hK K
        (try simp only [Act.put, gD, gE, gF])
        have hl3 := hL.size
        replace hL := blt hL hb
        have hne1_3 := Nat.ne_of_lt hk1.lt
        replace hk1 := hk1.below hb
        have hk3 := Bk.new v1 3 (slRow V (fun _ => .int .i64 0))
        clear hb
        generalize v1.alloc (.cells (slRow V (fun _ => .int .i64 0)) 3) = v13 at *
        generalize v1.heap.size = Wb at *
        refine wpAnyH_ready (rs := [5]) (by kernel_rfl) (by simp) ?_
        refine' AllReadyH.cons ?_ (fun K hK => ?_) AllReadyH.nil
        rotate_left
        focus (simp only [gA, gB, gC]; rfl)
        go_simp
        have hb := (Below.refl v13.heap.size v13).alloc (Nat.le_refl _) (.cells (slRow V (fun _ => .int .i64 0)) 3)
        refine hK.out _ _ trivial (fun hHeld => ?_)
        clear hK K
        (try simp only [Act.put, gD, gE, gF])
        have hl5 := hL.size
        replace hL := blt hL hb
        have hne1_5 := Nat.ne_of_lt hk1.lt
        replace hk1 := hk1.below hb
        have hne3_5 := Nat.ne_of_lt hk3.lt
        replace hk3 := hk3.below hb
        have hk5 := Bk.new v13 3 (slRow V (fun _ => .int .i64 0))
        clear hb
        generalize v13.alloc (.cells (slRow V (fun _ => .int .i64 0)) 3) = v135 at *
        generalize v13.heap.size = Ob at *
        refine wpAnyH_listed (listed' := #[true, true, true, true, true, true, false, false, false]) (by kernel_rfl) ?_
        exact HK1 Kb Wb Ob v135 ⟨hL, hl1, hl3, hl5, hk1, hk3, hk5, hne1_3, hne1_5, hne3_5⟩
      refine' AllReadyH.cons ?_ (fun K hK => ?_) ?_
      rotate_left
      focus (simp only [gA, gB, gC]; rfl)
      focus
        go_simp
        have hb := (Below.refl v1.heap.size v1).alloc (Nat.le_refl _) (.cells (slRow V (fun _ => .int .i64 0)) 3)
        refine hK.out _ _ trivial (fun hHeld => ?_)
        clear hK K
        (try simp only [Act.put, gD, gE, gF])
        have hl5 := hL.size
        replace hL := blt hL hb
        have hne1_5 := Nat.ne_of_lt hk1.lt
        replace hk1 := hk1.below hb
        have hk5 := Bk.new v1 3 (slRow V (fun _ => .int .i64 0))
        clear hb
        generalize v1.alloc (.cells (slRow V (fun _ => .int .i64 0)) 3) = v15 at *
        generalize v1.heap.size = Ob at *
        refine wpAnyH_ready (rs := [3]) (by kernel_rfl) (by simp) ?_
        refine' AllReadyH.cons ?_ (fun K hK => ?_) AllReadyH.nil
        rotate_left
        focus (simp only [gA, gB, gC]; rfl)
        go_simp
        have hb := (Below.refl v15.heap.size v15).alloc (Nat.le_refl _) (.cells (slRow V (fun _ => .int .i64 0)) 3)
        refine hK.out _ _ trivial (fun hHeld => ?_)
        clear hK K
        (try simp only [Act.put, gD, gE, gF])
        have hl3 := hL.size
        replace hL := blt hL hb
        have hne1_3 := Nat.ne_of_lt hk1.lt
        replace hk1 := hk1.below hb
        have hne5_3 := Nat.ne_of_lt hk5.lt
        replace hk5 := hk5.below hb
        have hk3 := Bk.new v15 3 (slRow V (fun _ => .int .i64 0))
        clear hb
        generalize v15.alloc (.cells (slRow V (fun _ => .int .i64 0)) 3) = v153 at *
        generalize v15.heap.size = Wb at *
        refine wpAnyH_listed (listed' := #[true, true, true, true, true, true, false, false, false]) (by kernel_rfl) ?_
        exact HK1 Kb Wb Ob v153 ⟨hL, hl1, hl3, hl5, hk1, hk3, hk5, hne1_3, hne1_5, (Ne.symm hne5_3)⟩
      exact AllReadyH.nil
    refine' AllReadyH.cons ?_ (fun K hK => ?_) ?_
    rotate_left
    focus (simp only [gA, gB, gC]; rfl)
    focus
      go_simp
      have hb := (Below.refl u0.heap.size u0).alloc (Nat.le_refl _) (.cells (slRow V (fun _ => .int .i64 0)) 3)
      refine hK.out _ _ trivial (fun hHeld => ?_)
      clear hK K
      (try simp only [Act.put, gD, gE, gF])
      have hl3 := hL.size
      replace hL := blt hL hb
      have hk3 := Bk.new u0 3 (slRow V (fun _ => .int .i64 0))
      clear hb
      generalize u0.alloc (.cells (slRow V (fun _ => .int .i64 0)) 3) = v3 at *
      generalize u0.heap.size = Wb at *
      refine wpAnyH_ready (rs := [1, 5]) (by kernel_rfl) (by simp) ?_
      refine' AllReadyH.cons ?_ (fun K hK => ?_) ?_
      rotate_left
      focus (simp only [gA, gB, gC]; rfl)
      focus
        go_simp
        have hb := (Below.refl v3.heap.size v3).alloc (Nat.le_refl _) (.cells (slRow V (fun _ => .bool false)) 4)
        refine hK.out _ _ trivial (fun hHeld => ?_)
        clear hK K
        (try simp only [Act.put, gD, gE, gF])
        have hl1 := hL.size
        replace hL := blt hL hb
        have hne3_1 := Nat.ne_of_lt hk3.lt
        replace hk3 := hk3.below hb
        have hk1 := Bk.new v3 4 (slRow V (fun _ => .bool false))
        clear hb
        generalize v3.alloc (.cells (slRow V (fun _ => .bool false)) 4) = v31 at *
        generalize v3.heap.size = Kb at *
        refine wpAnyH_ready (rs := [5]) (by kernel_rfl) (by simp) ?_
        refine' AllReadyH.cons ?_ (fun K hK => ?_) AllReadyH.nil
        rotate_left
        focus (simp only [gA, gB, gC]; rfl)
        go_simp
        have hb := (Below.refl v31.heap.size v31).alloc (Nat.le_refl _) (.cells (slRow V (fun _ => .int .i64 0)) 3)
        refine hK.out _ _ trivial (fun hHeld => ?_)
        clear hK K
        (try simp only [Act.put, gD, gE, gF])
        have hl5 := hL.size
        replace hL := blt hL hb
        have hne3_5 := Nat.ne_of_lt hk3.lt
        replace hk3 := hk3.below hb
        have hne1_5 := Nat.ne_of_lt hk1.lt
        replace hk1 := hk1.below hb
        have hk5 := Bk.new v31 3 (slRow V (fun _ => .int .i64 0))
        clear hb
        generalize v31.alloc (.cells (slRow V (fun _ => .int .i64 0)) 3) = v315 at *
        generalize v31.heap.size = Ob at *
        refine wpAnyH_listed (listed' := #[true, true, true, true, true, true, false, false, false]) (by kernel_rfl) ?_
        exact HK1 Kb Wb Ob v315 ⟨hL, hl1, hl3, hl5, hk1, hk3, hk5, (Ne.symm hne3_1), hne1_5, hne3_5⟩
      refine' AllReadyH.cons ?_ (fun K hK => ?_) ?_
      rotate_left
      focus (simp only [gA, gB, gC]; rfl)
      focus
        go_simp
        have hb := (Below.refl v3.heap.size v3).alloc (Nat.le_refl _) (.cells (slRow V (fun _ => .int .i64 0)) 3)
        refine hK.out _ _ trivial (fun hHeld => ?_)
        clear hK K
        (try simp only [Act.put, gD, gE, gF])
        have hl5 := hL.size
        replace hL := blt hL hb
        have hne3_5 := Nat.ne_of_lt hk3.lt
        replace hk3 := hk3.below hb
        have hk5 := Bk.new v3 3 (slRow V (fun _ => .int .i64 0))
        clear hb
        generalize v3.alloc (.cells (slRow V (fun _ => .int .i64 0)) 3) = v35 at *
        generalize v3.heap.size = Ob at *
        refine wpAnyH_ready (rs := [1]) (by kernel_rfl) (by simp) ?_
        refine' AllReadyH.cons ?_ (fun K hK => ?_) AllReadyH.nil
        rotate_left
        focus (simp only [gA, gB, gC]; rfl)
        go_simp
        have hb := (Below.refl v35.heap.size v35).alloc (Nat.le_refl _) (.cells (slRow V (fun _ => .bool false)) 4)
        refine hK.out _ _ trivial (fun hHeld => ?_)
        clear hK K
        (try simp only [Act.put, gD, gE, gF])
        have hl1 := hL.size
        replace hL := blt hL hb
        have hne3_1 := Nat.ne_of_lt hk3.lt
        replace hk3 := hk3.below hb
        have hne5_1 := Nat.ne_of_lt hk5.lt
        replace hk5 := hk5.below hb
        have hk1 := Bk.new v35 4 (slRow V (fun _ => .bool false))
        clear hb
        generalize v35.alloc (.cells (slRow V (fun _ => .bool false)) 4) = v351 at *
        generalize v35.heap.size = Kb at *
        refine wpAnyH_listed (listed' := #[true, true, true, true, true, true, false, false, false]) (by kernel_rfl) ?_
        exact HK1 Kb Wb Ob v351 ⟨hL, hl1, hl3, hl5, hk1, hk3, hk5, (Ne.symm hne3_1), (Ne.symm hne5_1), hne3_5⟩
      exact AllReadyH.nil
    refine' AllReadyH.cons ?_ (fun K hK => ?_) ?_
    rotate_left
    focus (simp only [gA, gB, gC]; rfl)
    focus
      go_simp
      have hb := (Below.refl u0.heap.size u0).alloc (Nat.le_refl _) (.cells (slRow V (fun _ => .int .i64 0)) 3)
      refine hK.out _ _ trivial (fun hHeld => ?_)
      clear hK K
      (try simp only [Act.put, gD, gE, gF])
      have hl5 := hL.size
      replace hL := blt hL hb
      have hk5 := Bk.new u0 3 (slRow V (fun _ => .int .i64 0))
      clear hb
      generalize u0.alloc (.cells (slRow V (fun _ => .int .i64 0)) 3) = v5 at *
      generalize u0.heap.size = Ob at *
      refine wpAnyH_ready (rs := [1, 3]) (by kernel_rfl) (by simp) ?_
      refine' AllReadyH.cons ?_ (fun K hK => ?_) ?_
      rotate_left
      focus (simp only [gA, gB, gC]; rfl)
      focus
        go_simp
        have hb := (Below.refl v5.heap.size v5).alloc (Nat.le_refl _) (.cells (slRow V (fun _ => .bool false)) 4)
        refine hK.out _ _ trivial (fun hHeld => ?_)
        clear hK K
        (try simp only [Act.put, gD, gE, gF])
        have hl1 := hL.size
        replace hL := blt hL hb
        have hne5_1 := Nat.ne_of_lt hk5.lt
        replace hk5 := hk5.below hb
        have hk1 := Bk.new v5 4 (slRow V (fun _ => .bool false))
        clear hb
        generalize v5.alloc (.cells (slRow V (fun _ => .bool false)) 4) = v51 at *
        generalize v5.heap.size = Kb at *
        refine wpAnyH_ready (rs := [3]) (by kernel_rfl) (by simp) ?_
        refine' AllReadyH.cons ?_ (fun K hK => ?_) AllReadyH.nil
        rotate_left
        focus (simp only [gA, gB, gC]; rfl)
        go_simp
        have hb := (Below.refl v51.heap.size v51).alloc (Nat.le_refl _) (.cells (slRow V (fun _ => .int .i64 0)) 3)
        refine hK.out _ _ trivial (fun hHeld => ?_)
        clear hK K
        (try simp only [Act.put, gD, gE, gF])
        have hl3 := hL.size
        replace hL := blt hL hb
        have hne5_3 := Nat.ne_of_lt hk5.lt
        replace hk5 := hk5.below hb
        have hne1_3 := Nat.ne_of_lt hk1.lt
        replace hk1 := hk1.below hb
        have hk3 := Bk.new v51 3 (slRow V (fun _ => .int .i64 0))
        clear hb
        generalize v51.alloc (.cells (slRow V (fun _ => .int .i64 0)) 3) = v513 at *
        generalize v51.heap.size = Wb at *
        refine wpAnyH_listed (listed' := #[true, true, true, true, true, true, false, false, false]) (by kernel_rfl) ?_
        exact HK1 Kb Wb Ob v513 ⟨hL, hl1, hl3, hl5, hk1, hk3, hk5, hne1_3, (Ne.symm hne5_1), (Ne.symm hne5_3)⟩
      refine' AllReadyH.cons ?_ (fun K hK => ?_) ?_
      rotate_left
      focus (simp only [gA, gB, gC]; rfl)
      focus
        go_simp
        have hb := (Below.refl v5.heap.size v5).alloc (Nat.le_refl _) (.cells (slRow V (fun _ => .int .i64 0)) 3)
        refine hK.out _ _ trivial (fun hHeld => ?_)
        clear hK K
        (try simp only [Act.put, gD, gE, gF])
        have hl3 := hL.size
        replace hL := blt hL hb
        have hne5_3 := Nat.ne_of_lt hk5.lt
        replace hk5 := hk5.below hb
        have hk3 := Bk.new v5 3 (slRow V (fun _ => .int .i64 0))
        clear hb
        generalize v5.alloc (.cells (slRow V (fun _ => .int .i64 0)) 3) = v53 at *
        generalize v5.heap.size = Wb at *
        refine wpAnyH_ready (rs := [1]) (by kernel_rfl) (by simp) ?_
        refine' AllReadyH.cons ?_ (fun K hK => ?_) AllReadyH.nil
        rotate_left
        focus (simp only [gA, gB, gC]; rfl)
        go_simp
        have hb := (Below.refl v53.heap.size v53).alloc (Nat.le_refl _) (.cells (slRow V (fun _ => .bool false)) 4)
        refine hK.out _ _ trivial (fun hHeld => ?_)
        clear hK K
        (try simp only [Act.put, gD, gE, gF])
        have hl1 := hL.size
        replace hL := blt hL hb
        have hne5_1 := Nat.ne_of_lt hk5.lt
        replace hk5 := hk5.below hb
        have hne3_1 := Nat.ne_of_lt hk3.lt
        replace hk3 := hk3.below hb
        have hk1 := Bk.new v53 4 (slRow V (fun _ => .bool false))
        clear hb
        generalize v53.alloc (.cells (slRow V (fun _ => .bool false)) 4) = v531 at *
        generalize v53.heap.size = Kb at *
        refine wpAnyH_listed (listed' := #[true, true, true, true, true, true, false, false, false]) (by kernel_rfl) ?_
        exact HK1 Kb Wb Ob v531 ⟨hL, hl1, hl3, hl5, hk1, hk3, hk5, (Ne.symm hne3_1), (Ne.symm hne5_1), (Ne.symm hne5_3)⟩
      exact AllReadyH.nil
    exact AllReadyH.nil
  obtain ⟨hL2, l1, l3, l5, k1, k3, k5, n13, n15, n35⟩ := hpre
  refine' wpAnyH_take (i := 6) (v := _) ?_ ?_ ?_ ?_ ?_ ?_ ?_ ?_
  rotate_left 2; (simp only [gA, gB, gC]; rfl); kernel_rfl; kernel_rfl; kernel_rfl; exact fun _ _ _ h => h; refine Or.inl ⟨?_, ?_⟩; focus (go_simp; done)
  focus (intro w hSw; (go_simp <;> with_reducible rfl))
  assumption; (try simp only [Act.put, gD, gE, gF])
  refine wpAnyH_ready (rs := [7]) (by kernel_rfl) (by simp) ?_
  refine' AllReadyH.cons ?_ (fun K hK => ?_) AllReadyH.nil
  rotate_left
  focus (simp only [gA, gB, gC]; rfl)
  go_simp
  refine hK.out _ _ trivial (fun hHeld => ?_)
  clear hK K
  (try simp only [Act.put, gD, gE, gF])
  refine' wpAnyH_take (i := 8) (v := _) ?_ ?_ ?_ ?_ ?_ ?_ ?_ ?_
  rotate_left 2; (simp only [gA, gB, gC]; rfl); kernel_rfl; kernel_rfl; kernel_rfl; exact fun _ _ _ h => h; refine Or.inl ⟨?_, ?_⟩; focus (go_simp; done)
  focus (intro w hSw; (go_simp <;> with_reducible rfl))
  assumption; (try simp only [Act.put, gD, gE, gF])
  refine wpAnyH_done (by kernel_rfl) ?_ _
  have hb : Below w'.heap.size w' (w'.alloc (.cells #[.slice (some ⟨Kb, 0, none⟩) V V, .slice (some ⟨Wb, 0, none⟩) V V, .slice (some ⟨Ob, 0, none⟩) V V] 89)) := bla (Below.refl _ _) _
  have HZ := Lib.hid (show Rz V w'.heap.size Kb Wb Ob (w.heap.size + 1) 0 (w'.alloc (.cells #[.slice (some ⟨Kb, 0, none⟩) V V, .slice (some ⟨Wb, 0, none⟩) V V, .slice (some ⟨Ob, 0, none⟩) V V] 89)) from ⟨Bk.new _ _ _, k1.below hb, k3.below hb, by
    have := k5.below hb
    rw [slRow_congr (f' := fun v => .int .i64 (if v < 0 then -1 else 0)) (fun v hv => by rw [if_neg (Nat.not_lt_zero v)])] at this
    exact this, ⟨(Nat.ne_of_lt k1.lt).symm, (Nat.ne_of_lt k3.lt).symm, (Nat.ne_of_lt k5.lt).symm, n13, n15, n35⟩, ⟨by have := k1.lt; omega, by omega, by omega, by omega⟩⟩)
  have HB2 := Lib.hid ((HB.out.below hL2).below hb)
  have HO2 := Lib.hid (own_below (own_below HOU.out hL2) hb)
  clear HB HOU hL hL2 l1 l3 l5 k1 k3 k5 n13 n15 n35 hb hsz hmb hmi HU0 hHeld
  generalize hW : World.alloc _ (.cells #[.slice (some ⟨Kb, 0, none⟩) V V, .slice (some ⟨Wb, 0, none⟩) V V, .slice (some ⟨Ob, 0, none⟩) V V] 89) = U1 at HZ HB2 HO2 ⊢
  generalize hBf : w'.heap.size = Bf at HZ ⊢
  clear hW hBf
  go_wp2
  go_loopw [6] (fun i wr => ∃ k : Nat, k ≤ V ∧ i = .int .i64 k ∧ Hid (Rz V Bf Kb Wb Ob (w.heap.size + 1) k wr ∧ Bb w #[.slice A1 b.ops.length c1, .int .i64 b.cond, .slice A2 b.next.length c2] #[.slice none 0 0, .int .i64 0, .slice none 0 0] r wr ∧ wr.ownsRow base 42 5 (.slice A1 b.ops.length c1) b.ops.length (b.ops.flatMap opCells))) (fun i _ => V - (intOf i).toNat)
  case atStart => exact ⟨0, Nat.zero_le _, rfl, Lib.hid ⟨HZ.out, HB2.out, HO2.out⟩⟩
  case round =>
    clear HZ HB2 HO2
    obtain ⟨k, hk, rfl, HZ⟩ := hrel
    by_cases hlt : k < V
    · have hlt' : (k : Int) < V := by omega
      have hlt0 : (0 : Int) ≤ (k : Int) := by omega
      have b2 := HZ.out.1.fb.cell 2
      have c0 := (HZ.out.1.cp.cell k).trans (slRow_cell _ _ hlt)
      have cf := HZ.out.1.cp.frozen k
      have clo := HZ.out.1.cp.lt
      obtain ⟨z, hz⟩ : ∃ z : Int, (if k < k then (-1 : Int) else 0) = z := ⟨_, rfl⟩
      rw [hz] at c0
      clear hz
      have HN2 := Lib.hid (show Rz V Bf Kb Wb Ob (w.heap.size + 1) (k + 1) (wr.setCell ⟨Ob, k, none⟩ (.int .i64 (-1))) ∧ Bb w #[.slice A1 b.ops.length c1, .int .i64 b.cond, .slice A2 b.next.length c2] #[.slice none 0 0, .int .i64 0, .slice none 0 0] r (wr.setCell ⟨Ob, k, none⟩ (.int .i64 (-1))) ∧ (wr.setCell ⟨Ob, k, none⟩ (.int .i64 (-1))).ownsRow base 42 5 (.slice A1 b.ops.length c1) b.ops.length (b.ops.flatMap opCells) from ⟨HZ.out.1.step, HZ.out.2.1.put (.inl HZ.out.1.lo.2.2.2) _, own_store_b HZ.out.2.2 HZ.out.1.cp (by decide)⟩)
      clear HZ
      go_wp2
      go_roundw
      case rel => exact ⟨k + 1, by omega, by first | rfl | go_num, HN2⟩
      case measure => simp [intOf]; omega
    · have hlt' : ¬ (k : Int) < V := by omega
      obtain rfl : k = V := by omega
      have HF := Lib.hid (⟨⟨_, HZ.out.1.rf⟩, HZ.out.2.1, by rw [mix_zero]; exact HZ.out.2.2⟩ : (∃ fw, Rf k Bf Kb Wb Ob (Fo.runs b.ops 0) fw wr) ∧ Bb w #[.slice A1 b.ops.length c1, .int .i64 b.cond, .slice A2 b.next.length c2] #[.slice none 0 0, .int .i64 0, .slice none 0 0] r wr ∧ wr.ownsRow base 42 5 (.slice A1 b.ops.length c1) b.ops.length ((Fo.mix b.ops 0).flatMap opCells))
      have HLo := Lib.hid HZ.out.1.lo
      clear HZ
      go_wp2
      go_loopw [7] (fun i wr => ∃ j : Nat, j ≤ b.ops.length ∧ i = .int .i64 j ∧ Hid ((∃ fw, Rf k Bf Kb Wb Ob (Fo.runs b.ops j) fw wr) ∧ Bb w #[.slice A1 b.ops.length c1, .int .i64 b.cond, .slice A2 b.next.length c2] #[.slice none 0 0, .int .i64 0, .slice none 0 0] r wr ∧ (wr).ownsRow base 42 5 (.slice A1 b.ops.length c1) b.ops.length ((Fo.mix b.ops j).flatMap opCells))) (fun i _ => b.ops.length - (intOf i).toNat)
      case atStart => exact ⟨0, Nat.zero_le _, rfl, HF⟩
      case round =>
        clear HF
        obtain ⟨j, hj, rfl, HF⟩ := hrel
        have q0 := HF.out.2.1.ob.cell 0
        have hn1 := HN.out
        by_cases hltj : j < b.ops.length
        · have hltj' : (j : Int) < b.ops.length := by omega
          have hltj0 : (0 : Int) ≤ (j : Int) := by omega
          obtain ⟨g, rfl⟩ : ∃ g, A1 = some ⟨g, 0, none⟩ := by
            rcases HF.out.2.2.2 with ⟨h, h0⟩ | ⟨g, cap, cur, h, _⟩
            · omega
            · injection h with h _ _
              exact ⟨g, h⟩
          obtain ⟨fw, hrf⟩ := HF.out.1
          have HRf := Lib.hid hrf
          have HBb := Lib.hid HF.out.2.1
          have HOw := Lib.hid HF.out.2.2
          have hgl : g < w.heap.size := HRl.out g (by rw [← HR.out]; rfl)
          have hrg : r = some g := by rw [← HR.out]; rfl
          have HRg := Lib.hid hrg
          obtain ⟨hl1, hl2, hl3, hl4⟩ := HLo.out
          obtain ⟨o, hoo⟩ : ∃ o, b.ops.getD j Gr.op0 = o := ⟨_, rfl⟩
          have HOo := Lib.hid hoo
          have hok := Fo.runs_ok (V := (k : Int)) (by omega) HG.out j (by omega)
          have HFd := Lib.hid fun (u : World) (fw : Nat → Int) (h : Rf k Bf Kb Wb Ob (Fo.runs b.ops j) fw u) => rfold_any k Bf Kb Wb Ob (Fo.runs b.ops j) fw o (hoo ▸ HG.out j hltj) hV hok u h
          have HMx := Lib.hid (mix_get (l := b.ops) (k := j) hltj)
          clear HF hrf hrg hoo hok
          go_upto_region 9 with fail
          clear q0
          have HRd := Lib.hid (show Rf k Bf Kb Wb Ob (Fo.runs b.ops j) fw wr.drew from HRf.out.below (below_drewN _ wr 1))
          refine wp_region_last (S := (fun u : World => Bb w #[.slice (some ⟨g, 0, none⟩) b.ops.length c1, .int .i64 b.cond, .slice A2 b.next.length c2] #[.slice none 0 0, .int .i64 0, .slice none 0 0] r u ∧ u.ownsRow base 42 5 (.slice (some ⟨g, 0, none⟩) b.ops.length c1) b.ops.length ((Fo.mix b.ops j).flatMap opCells))) 11 (by kernel_rfl) ?_ (fun hHeld => ?_)
          · exact ⟨HBb.out.below (below_drewN _ _ 1), own_below HOw.out (below_drewN _ _ 1)⟩
          clear HRf HBb HOw
          refine' wpAnyL_take (i := 0) (v := _) ?_ ?_ ?_ ?_ ?_ ?_ ?_ ?_ ?_
          rotate_left 2; (simp only [gA, gB, gC]; rfl); kernel_rfl; kernel_rfl; kernel_rfl; kernel_rfl; exact fun _ _ _ h => h; refine Or.inl ⟨?_, ?_⟩; focus (go_simp; done)
          focus (intro w hSw; have m0 := hSw.1.ob.cell 0; obtain ⟨c0, c1_, c2_, c3, c4⟩ := own_op_cells hSw.2 (k := j) (by rw [mix_len]; exact hltj); simp only [HMx.out, Nat.lt_irrefl, if_false, HOo.out] at c0 c1_ c2_ c3 c4; have hlo := (hSw.2.lt g rfl).2; (go_simp <;> with_reducible rfl))
          assumption; (try simp only [Act.put, gD, gE, gF])
          refine' wpAnyL_take (i := 1) (v := _) ?_ ?_ ?_ ?_ ?_ ?_ ?_ ?_ ?_
          rotate_left 2; (simp only [gA, gB, gC]; rfl); kernel_rfl; kernel_rfl; kernel_rfl; kernel_rfl; exact fun _ _ _ h => h; refine Or.inl ⟨?_, ?_⟩; focus (go_simp; done)
          focus (intro w hSw; have m0 := hSw.1.ob.cell 0; obtain ⟨c0, c1_, c2_, c3, c4⟩ := own_op_cells hSw.2 (k := j) (by rw [mix_len]; exact hltj); simp only [HMx.out, Nat.lt_irrefl, if_false, HOo.out] at c0 c1_ c2_ c3 c4; have hlo := (hSw.2.lt g rfl).2; (go_simp <;> with_reducible rfl))
          assumption; (try simp only [Act.put, gD, gE, gF])
          refine' wpAnyL_take (i := 2) (v := _) ?_ ?_ ?_ ?_ ?_ ?_ ?_ ?_ ?_
          rotate_left 2; (simp only [gA, gB, gC]; rfl); kernel_rfl; kernel_rfl; kernel_rfl; kernel_rfl; exact fun _ _ _ h => h; refine Or.inl ⟨?_, ?_⟩; focus (go_simp; done)
          focus (intro w hSw; have m0 := hSw.1.ob.cell 0; obtain ⟨c0, c1_, c2_, c3, c4⟩ := own_op_cells hSw.2 (k := j) (by rw [mix_len]; exact hltj); simp only [HMx.out, Nat.lt_irrefl, if_false, HOo.out] at c0 c1_ c2_ c3 c4; have hlo := (hSw.2.lt g rfl).2; (go_simp <;> with_reducible rfl))
          assumption; (try simp only [Act.put, gD, gE, gF])
          refine' wpAnyL_take (i := 3) (v := _) ?_ ?_ ?_ ?_ ?_ ?_ ?_ ?_ ?_
          rotate_left 2; (simp only [gA, gB, gC]; rfl); kernel_rfl; kernel_rfl; kernel_rfl; kernel_rfl; exact fun _ _ _ h => h; refine Or.inl ⟨?_, ?_⟩; focus (go_simp; done)
          focus (intro w hSw; have m0 := hSw.1.ob.cell 0; obtain ⟨c0, c1_, c2_, c3, c4⟩ := own_op_cells hSw.2 (k := j) (by rw [mix_len]; exact hltj); simp only [HMx.out, Nat.lt_irrefl, if_false, HOo.out] at c0 c1_ c2_ c3 c4; have hlo := (hSw.2.lt g rfl).2; (go_simp <;> with_reducible rfl))
          assumption; (try simp only [Act.put, gD, gE, gF])
          refine' wpAnyL_take (i := 4) (v := _) ?_ ?_ ?_ ?_ ?_ ?_ ?_ ?_ ?_
          rotate_left 2; (simp only [gA, gB, gC]; rfl); kernel_rfl; kernel_rfl; kernel_rfl; kernel_rfl; exact fun _ _ _ h => h; refine Or.inl ⟨?_, ?_⟩; focus (go_simp; done)
          focus (intro w hSw; have m0 := hSw.1.ob.cell 0; obtain ⟨c0, c1_, c2_, c3, c4⟩ := own_op_cells hSw.2 (k := j) (by rw [mix_len]; exact hltj); simp only [HMx.out, Nat.lt_irrefl, if_false, HOo.out] at c0 c1_ c2_ c3 c4; have hlo := (hSw.2.lt g rfl).2; (go_simp <;> with_reducible rfl))
          assumption; (try simp only [Act.put, gD, gE, gF])
          refine' wpAnyL_take (i := 5) (v := _) ?_ ?_ ?_ ?_ ?_ ?_ ?_ ?_ ?_
          rotate_left 2; (simp only [gA, gB, gC]; rfl); kernel_rfl; kernel_rfl; kernel_rfl; kernel_rfl; exact fun _ _ _ h => h; refine Or.inl ⟨?_, ?_⟩; focus (go_simp; done)
          focus (intro w hSw; have m0 := hSw.1.ob.cell 0; obtain ⟨c0, c1_, c2_, c3, c4⟩ := own_op_cells hSw.2 (k := j) (by rw [mix_len]; exact hltj); simp only [HMx.out, Nat.lt_irrefl, if_false, HOo.out] at c0 c1_ c2_ c3 c4; have hlo := (hSw.2.lt g rfl).2; (go_simp <;> with_reducible rfl))
          assumption; (try simp only [Act.put, gD, gE, gF])
          refine' wpAnyL_take (i := 6) (v := _) ?_ ?_ ?_ ?_ ?_ ?_ ?_ ?_ ?_
          rotate_left 2; (simp only [gA, gB, gC]; rfl); kernel_rfl; kernel_rfl; kernel_rfl; kernel_rfl; exact fun _ _ _ h => h; refine Or.inl ⟨?_, ?_⟩; focus (go_simp; done)
          focus (intro w hSw; have m0 := hSw.1.ob.cell 0; obtain ⟨c0, c1_, c2_, c3, c4⟩ := own_op_cells hSw.2 (k := j) (by rw [mix_len]; exact hltj); simp only [HMx.out, Nat.lt_irrefl, if_false, HOo.out] at c0 c1_ c2_ c3 c4; have hlo := (hSw.2.lt g rfl).2; (go_simp <;> with_reducible rfl))
          assumption; (try simp only [Act.put, gD, gE, gF])
          refine' wpAnyL_take (i := 7) (v := _) ?_ ?_ ?_ ?_ ?_ ?_ ?_ ?_ ?_
          rotate_left 2; (simp only [gA, gB, gC]; rfl); kernel_rfl; kernel_rfl; kernel_rfl; kernel_rfl; exact fun _ _ _ h => h; refine Or.inl ⟨?_, ?_⟩; focus (go_simp; done)
          focus (intro w hSw; have m0 := hSw.1.ob.cell 0; obtain ⟨c0, c1_, c2_, c3, c4⟩ := own_op_cells hSw.2 (k := j) (by rw [mix_len]; exact hltj); simp only [HMx.out, Nat.lt_irrefl, if_false, HOo.out] at c0 c1_ c2_ c3 c4; have hlo := (hSw.2.lt g rfl).2; (go_simp <;> with_reducible rfl))
          assumption; (try simp only [Act.put, gD, gE, gF])
          refine' wpAnyL_take (i := 8) (v := _) ?_ ?_ ?_ ?_ ?_ ?_ ?_ ?_ ?_
          rotate_left 2; (simp only [gA, gB, gC]; rfl); kernel_rfl; kernel_rfl; kernel_rfl; kernel_rfl; exact fun _ _ _ h => h; refine Or.inl ⟨?_, ?_⟩; focus (go_simp; done)
          focus (intro w hSw; have m0 := hSw.1.ob.cell 0; obtain ⟨c0, c1_, c2_, c3, c4⟩ := own_op_cells hSw.2 (k := j) (by rw [mix_len]; exact hltj); simp only [HMx.out, Nat.lt_irrefl, if_false, HOo.out] at c0 c1_ c2_ c3 c4; have hlo := (hSw.2.lt g rfl).2; (go_simp <;> with_reducible rfl))
          assumption; (try simp only [Act.put, gD, gE, gF])
          refine' wpAnyL_one (i := 9) ?_ ?_ ?_ (fun K hK => ?_)
          rotate_left
          focus kernel_rfl
          focus kernel_rfl
          focus (simp only [gA, gB, gC]; rfl)
          have hlo := (hHeld.2.lt g rfl).2
          go_simp
          (go_at_call 46; refine (HFd.out _ fw HRd.out).mono ?_; rintro e u1 ⟨rfl, ⟨fw1, hrf1⟩, hmt⟩)
          have HRn := Lib.hid (show ∃ fw, Rf k Bf Kb Wb Ob (Fo.runs b.ops (j + 1)) fw u1 from ⟨fw1, by have h := hrf1; rw [← HOo.out] at h; exact h⟩)
          refine hK.out _ _ (⟨hHeld.1.mt hmt (by omega) (by omega) (by omega), hmt.own hHeld.2 (fun q hq => by obtain rfl := ob_eq hq; exact ⟨by omega, by omega, by omega⟩)⟩) (fun hHeld => ?_)
          clear hK K
          (try simp only [Act.put, gD, gE, gF])
          clear hmt hrf1 hlo HRd HFd
          refine' wpAnyL_take (i := 10) (v := _) ?_ ?_ ?_ ?_ ?_ ?_ ?_ ?_ ?_
          rotate_left 2; (simp only [gA, gB, gC]; rfl); kernel_rfl; kernel_rfl; kernel_rfl; kernel_rfl; exact fun _ _ _ h => h; refine Or.inl ⟨?_, ?_⟩; focus (go_simp; done)
          focus (intro w hSw; have m0 := hSw.1.ob.cell 0; obtain ⟨c0, c1_, c2_, c3, c4⟩ := own_op_cells hSw.2 (k := j) (by rw [mix_len]; exact hltj); simp only [HMx.out, Nat.lt_irrefl, if_false, HOo.out] at c0 c1_ c2_ c3 c4; have hlo := (hSw.2.lt g rfl).2; (go_simp <;> with_reducible rfl))
          assumption; (try simp only [Act.put, gD, gE, gF])
          refine' wpAnyL_last ?_ ?_ (fun K hK => ?_)
          rotate_left
          focus kernel_rfl
          focus (simp only [gA, gB, gC]; rfl)
          obtain ⟨r0, r1, r2, r3, r4⟩ := own_op_cells hHeld.2 (k := j) (by rw [mix_len]; exact hltj)
          have f0 := own_frz hHeld.2 (j * 5)
          have f1 := own_frz hHeld.2 (j * 5 + 1)
          have f2 := own_frz hHeld.2 (j * 5 + 2)
          have f3 := own_frz hHeld.2 (j * 5 + 3)
          have f4 := own_frz hHeld.2 (j * 5 + 4)
          have hlo := (hHeld.2.lt g rfl).2
          obtain ⟨o2, ho2⟩ : ∃ o2, Fo.step (Fo.runs b.ops j) o = o2 := ⟨_, rfl⟩
          have HO2 := Lib.hid (show Fo.opAt b.ops j = o2 by rw [← ho2, ← HOo.out]; rfl)
          unfold opV
          rw [ho2]
          go_simp
          refine hK.out _ _ ?_
          clear hK K
          (try simp only [Act.put, gD, gE, gF])
          refine wpAny_done (by kernel_rfl) ?_ _
          have HNx := Lib.hid (show ((∃ fw, Rf k Bf Kb Wb Ob (Fo.runs b.ops (j + 1)) fw (((((u1.setCell ⟨g, j * 5, none⟩ (.int .i64 o2.kind)).setCell ⟨g, j * 5 + 1, none⟩ (.int .i64 o2.dst)).setCell ⟨g, j * 5 + 2, none⟩ (.int .i64 o2.a)).setCell ⟨g, j * 5 + 3, none⟩ (.int .i64 o2.b)).setCell ⟨g, j * 5 + 4, none⟩ (.int .i64 o2.imm))) ∧ Bb w #[.slice (some ⟨g, 0, none⟩) b.ops.length c1, .int .i64 b.cond, .slice A2 b.next.length c2] #[.slice none 0 0, .int .i64 0, .slice none 0 0] r (((((u1.setCell ⟨g, j * 5, none⟩ (.int .i64 o2.kind)).setCell ⟨g, j * 5 + 1, none⟩ (.int .i64 o2.dst)).setCell ⟨g, j * 5 + 2, none⟩ (.int .i64 o2.a)).setCell ⟨g, j * 5 + 3, none⟩ (.int .i64 o2.b)).setCell ⟨g, j * 5 + 4, none⟩ (.int .i64 o2.imm)) ∧ ((((((u1.setCell ⟨g, j * 5, none⟩ (.int .i64 o2.kind)).setCell ⟨g, j * 5 + 1, none⟩ (.int .i64 o2.dst)).setCell ⟨g, j * 5 + 2, none⟩ (.int .i64 o2.a)).setCell ⟨g, j * 5 + 3, none⟩ (.int .i64 o2.b)).setCell ⟨g, j * 5 + 4, none⟩ (.int .i64 o2.imm))).ownsRow base 42 5 (.slice (some ⟨g, 0, none⟩) b.ops.length c1) b.ops.length ((Fo.mix b.ops (j + 1)).flatMap opCells)) from ⟨by
            obtain ⟨fw2, h2⟩ := HRn.out
            exact ⟨fw2, ((((h2.box (by show Bf ≠ g; omega) (by show Kb ≠ g; omega) (by show Wb ≠ g; omega) (by show Ob ≠ g; omega) _).box (by show Bf ≠ g; omega) (by show Kb ≠ g; omega) (by show Wb ≠ g; omega) (by show Ob ≠ g; omega) _).box (by show Bf ≠ g; omega) (by show Kb ≠ g; omega) (by show Wb ≠ g; omega) (by show Ob ≠ g; omega) _).box (by show Bf ≠ g; omega) (by show Kb ≠ g; omega) (by show Wb ≠ g; omega) (by show Ob ≠ g; omega) _).box (by show Bf ≠ g; omega) (by show Kb ≠ g; omega) (by show Wb ≠ g; omega) (by show Ob ≠ g; omega) _⟩, ((((hHeld.1.put (.inr ⟨HRg.out, hgl⟩) _).put (.inr ⟨HRg.out, hgl⟩) _).put (.inr ⟨HRg.out, hgl⟩) _).put (.inr ⟨HRg.out, hgl⟩) _).put (.inr ⟨HRg.out, hgl⟩) _, by
            have := own_op_set hHeld.2 j o2
            rwa [← HO2.out, mix_set hltj, HO2.out] at this⟩)
          clear hHeld r0 r1 r2 r3 r4 f0 f1 f2 f3 f4 hlo HRn ho2
          go_wp2
          go_roundw
          case rel => exact ⟨j + 1, by omega, by first | rfl | go_num, HNx⟩
          case measure => simp [intOf]; omega
        · have hltj' : ¬ (j : Int) < b.ops.length := by omega
          obtain rfl : j = b.ops.length := by omega
          have HFin := Lib.hid (show wr.ownsRow base 42 5 (.slice A1 b.ops.length c1) b.ops.length ((Fo.ops b.ops).flatMap opCells) from by have := HF.out.2.2; rwa [mix_all] at this)
          have HBb := Lib.hid HF.out.2.1
          obtain ⟨fw, hrf⟩ := HF.out.1
          have HRf := Lib.hid hrf
          clear HF hrf
          have q2 := HBb.out.ob.cell 2
          have hok := Fo.runs_ok (V := (k : Int)) (by omega) HG.out b.ops.length (Nat.le_refl _)
          by_cases h2 : b.next.length = 2
          · have h2' : (b.next.length : Int) = 2 := by omega
            have q1 := HBb.out.ob.cell 1
            obtain ⟨cd, hcd⟩ : ∃ cd : Nat, b.cond = (cd : Int) := ⟨b.cond.toNat, by have := HC.out h2; omega⟩
            have hcl : cd < k := by have := (HC.out h2).2; omega
            have HCd := Lib.hid hcd
            obtain ⟨x, hx⟩ : ∃ x : Nat, Fo.use (Fo.runs b.ops b.ops.length) (cd : Int) = (x : Int) := ⟨(Fo.use (Fo.runs b.ops b.ops.length) (cd : Int)).toNat, by have := (Fo.use_in hok (v := (cd : Int)) (by omega) (by omega)).1; omega⟩
            have hxl : x < k := by have := (Fo.use_in hok (v := (cd : Int)) (by omega) (by omega)).2; omega
            have hxl' : (x : Int) < k := by omega
            have hxl0 : (0 : Int) ≤ (x : Int) := by omega
            have HU := Lib.hid (ruse_any k Bf Kb Wb Ob (Fo.runs b.ops b.ops.length) fw cd hcl hV hok wr HRf.out)
            rw [hx] at HU
            have HXu := Lib.hid hx
            rw [hcd] at q1
            have HH2 := Lib.hid h2
            clear hx hcd hok h2
            go_wp2_with fail
            refine HU.out.mono ?_
            rintro e w1 ⟨rfl, rfl⟩
            have f1 := HBb.out.ob.frozen 1
            go_upto_region 12 with fail
            obtain ⟨hl1, hl2, hl3, hl4⟩ := HLo.out
            have HB1 := Lib.hid (show Bb w #[.slice A1 b.ops.length c1, .int .i64 (x : Int), .slice A2 b.next.length c2] #[.slice none 0 0, .int .i64 0, .slice none 0 0] r (w1.setCell ⟨w.heap.size, 1, none⟩ (.int .i64 (x : Int))) from HBb.out.box 1 _ _ rfl)
            have HR1 := Lib.hid (show Rf k Bf Kb Wb Ob _ fw (w1.setCell ⟨w.heap.size, 1, none⟩ (.int .i64 (x : Int))) from HRf.out.box (by show Bf ≠ w.heap.size; omega) (by show Kb ≠ w.heap.size; omega) (by show Wb ≠ w.heap.size; omega) (by show Ob ≠ w.heap.size; omega) _)
            have HW1 := Lib.hid (own_store_b (i := 1) (z := .int .i64 (x : Int)) HFin.out HBb.out.ob (by decide))
            clear HBb HRf HFin q1 q2 f1 HU h2'
            generalize hW : World.setCell w1 ⟨w.heap.size, 1, none⟩ (.int .i64 (x : Int)) = W1 at HB1 HR1 HW1 ⊢
            clear hW
            cases hwx : (Fo.runs b.ops b.ops.length).wd (x : Int) with
            | none =>
              have HWx := Lib.hid hwx
              clear hwx
              refine wp_region_held_drew (S := (fun u : World => Bk u Bf 89 #[.slice (some ⟨Kb, 0, none⟩) k k, .slice (some ⟨Wb, 0, none⟩) k k, .slice (some ⟨Ob, 0, none⟩) k k] ∧ Bk u w.heap.size 40 #[.slice A1 b.ops.length c1, .int .i64 (x : Int), .slice A2 b.next.length c2] ∧ Bk u Kb 4 (slRow k fun v => .bool ((Fo.runs b.ops b.ops.length).wd (v : Int)).isSome) ∧ Bk u Wb 3 (slRow k fun v => .int .i64 (fw v)))) (by kernel_rfl) (⟨HR1.out.fb.below (below_drewN _ _ 1), HB1.out.ob.below (below_drewN _ _ 1), HR1.out.kn.below (below_drewN _ _ 1), HR1.out.wd.below (below_drewN _ _ 1)⟩) (fun hHeld => ?_)
              refine' wpAnyH_take (i := 0) (v := _) ?_ ?_ ?_ ?_ ?_ ?_ ?_ ?_
              rotate_left 2; (simp only [gA, gB, gC]; rfl); kernel_rfl; kernel_rfl; kernel_rfl; exact fun _ _ _ h => h; refine Or.inl ⟨?_, ?_⟩; focus (go_simp; done)
              focus (intro w hSw; have b0 := hSw.1.cell 0; have b1 := hSw.1.cell 1; have o1 := hSw.2.1.cell 1; have k0 := (hSw.2.2.1.cell x).trans (slRow_cell _ _ hxl); have w0 := (hSw.2.2.2.cell x).trans (slRow_cell _ _ hxl); simp only [HWx.out, Option.isSome_none, Option.isSome_some] at k0; have l1 := hSw.1.lt; have l2 := hSw.2.1.lt; have l3 := hSw.2.2.1.lt; have l4 := hSw.2.2.2.lt; (go_simp <;> with_reducible rfl))
              assumption; (try simp only [Act.put, gD, gE, gF])
              refine' wpAnyH_take (i := 1) (v := _) ?_ ?_ ?_ ?_ ?_ ?_ ?_ ?_
              rotate_left 2; (simp only [gA, gB, gC]; rfl); kernel_rfl; kernel_rfl; kernel_rfl; exact fun _ _ _ h => h; refine Or.inl ⟨?_, ?_⟩; focus (go_simp; done)
              focus (intro w hSw; have b0 := hSw.1.cell 0; have b1 := hSw.1.cell 1; have o1 := hSw.2.1.cell 1; have k0 := (hSw.2.2.1.cell x).trans (slRow_cell _ _ hxl); have w0 := (hSw.2.2.2.cell x).trans (slRow_cell _ _ hxl); simp only [HWx.out, Option.isSome_none, Option.isSome_some] at k0; have l1 := hSw.1.lt; have l2 := hSw.2.1.lt; have l3 := hSw.2.2.1.lt; have l4 := hSw.2.2.2.lt; (go_simp <;> with_reducible rfl))
              assumption; (try simp only [Act.put, gD, gE, gF])
              refine' wpAnyH_take (i := 2) (v := _) ?_ ?_ ?_ ?_ ?_ ?_ ?_ ?_
              rotate_left 2; (simp only [gA, gB, gC]; rfl); kernel_rfl; kernel_rfl; kernel_rfl; exact fun _ _ _ h => h; refine Or.inl ⟨?_, ?_⟩; focus (go_simp; done)
              focus (intro w hSw; have b0 := hSw.1.cell 0; have b1 := hSw.1.cell 1; have o1 := hSw.2.1.cell 1; have k0 := (hSw.2.2.1.cell x).trans (slRow_cell _ _ hxl); have w0 := (hSw.2.2.2.cell x).trans (slRow_cell _ _ hxl); simp only [HWx.out, Option.isSome_none, Option.isSome_some] at k0; have l1 := hSw.1.lt; have l2 := hSw.2.1.lt; have l3 := hSw.2.2.1.lt; have l4 := hSw.2.2.2.lt; (go_simp <;> with_reducible rfl))
              assumption; (try simp only [Act.put, gD, gE, gF])
              refine' wpAnyH_take (i := 3) (v := _) ?_ ?_ ?_ ?_ ?_ ?_ ?_ ?_
              rotate_left 2; (simp only [gA, gB, gC]; rfl); kernel_rfl; kernel_rfl; kernel_rfl; exact fun _ _ _ h => h; refine Or.inl ⟨?_, ?_⟩; focus (go_simp; done)
              focus (intro w hSw; have b0 := hSw.1.cell 0; have b1 := hSw.1.cell 1; have o1 := hSw.2.1.cell 1; have k0 := (hSw.2.2.1.cell x).trans (slRow_cell _ _ hxl); have w0 := (hSw.2.2.2.cell x).trans (slRow_cell _ _ hxl); simp only [HWx.out, Option.isSome_none, Option.isSome_some] at k0; have l1 := hSw.1.lt; have l2 := hSw.2.1.lt; have l3 := hSw.2.2.1.lt; have l4 := hSw.2.2.2.lt; (go_simp <;> with_reducible rfl))
              assumption; (try simp only [Act.put, gD, gE, gF])
              refine' wpAnyH_take (i := 4) (v := _) ?_ ?_ ?_ ?_ ?_ ?_ ?_ ?_
              rotate_left 2; (simp only [gA, gB, gC]; rfl); kernel_rfl; kernel_rfl; kernel_rfl; exact fun _ _ _ h => h; refine Or.inl ⟨?_, ?_⟩; focus (go_simp; done)
              focus (intro w hSw; have b0 := hSw.1.cell 0; have b1 := hSw.1.cell 1; have o1 := hSw.2.1.cell 1; have k0 := (hSw.2.2.1.cell x).trans (slRow_cell _ _ hxl); have w0 := (hSw.2.2.2.cell x).trans (slRow_cell _ _ hxl); simp only [HWx.out, Option.isSome_none, Option.isSome_some] at k0; have l1 := hSw.1.lt; have l2 := hSw.2.1.lt; have l3 := hSw.2.2.1.lt; have l4 := hSw.2.2.2.lt; (go_simp <;> with_reducible rfl))
              assumption; (try simp only [Act.put, gD, gE, gF])
              refine' wpAnyH_take (i := 5) (v := _) ?_ ?_ ?_ ?_ ?_ ?_ ?_ ?_
              rotate_left 2; (simp only [gA, gB, gC]; rfl); kernel_rfl; kernel_rfl; kernel_rfl; exact fun _ _ _ h => h; refine Or.inl ⟨?_, ?_⟩; focus (go_simp; done)
              focus (intro w hSw; have b0 := hSw.1.cell 0; have b1 := hSw.1.cell 1; have o1 := hSw.2.1.cell 1; have k0 := (hSw.2.2.1.cell x).trans (slRow_cell _ _ hxl); have w0 := (hSw.2.2.2.cell x).trans (slRow_cell _ _ hxl); simp only [HWx.out, Option.isSome_none, Option.isSome_some] at k0; have l1 := hSw.1.lt; have l2 := hSw.2.1.lt; have l3 := hSw.2.2.1.lt; have l4 := hSw.2.2.2.lt; (go_simp <;> with_reducible rfl))
              assumption; (try simp only [Act.put, gD, gE, gF])
              refine' wpAnyH_take (i := 6) (v := _) ?_ ?_ ?_ ?_ ?_ ?_ ?_ ?_
              rotate_left 2; (simp only [gA, gB, gC]; rfl); kernel_rfl; kernel_rfl; kernel_rfl; exact fun _ _ _ h => h; refine Or.inl ⟨?_, ?_⟩; focus (go_simp; done)
              focus (intro w hSw; have b0 := hSw.1.cell 0; have b1 := hSw.1.cell 1; have o1 := hSw.2.1.cell 1; have k0 := (hSw.2.2.1.cell x).trans (slRow_cell _ _ hxl); have w0 := (hSw.2.2.2.cell x).trans (slRow_cell _ _ hxl); simp only [HWx.out, Option.isSome_none, Option.isSome_some] at k0; have l1 := hSw.1.lt; have l2 := hSw.2.1.lt; have l3 := hSw.2.2.1.lt; have l4 := hSw.2.2.2.lt; (go_simp <;> with_reducible rfl))
              assumption; (try simp only [Act.put, gD, gE, gF])
              refine' wpAnyH_take (i := 7) (v := _) ?_ ?_ ?_ ?_ ?_ ?_ ?_ ?_
              rotate_left 2; (simp only [gA, gB, gC]; rfl); kernel_rfl; kernel_rfl; kernel_rfl; exact fun _ _ _ h => h; refine Or.inl ⟨?_, ?_⟩; focus (go_simp; done)
              focus (intro w hSw; have b0 := hSw.1.cell 0; have b1 := hSw.1.cell 1; have o1 := hSw.2.1.cell 1; have k0 := (hSw.2.2.1.cell x).trans (slRow_cell _ _ hxl); have w0 := (hSw.2.2.2.cell x).trans (slRow_cell _ _ hxl); simp only [HWx.out, Option.isSome_none, Option.isSome_some] at k0; have l1 := hSw.1.lt; have l2 := hSw.2.1.lt; have l3 := hSw.2.2.1.lt; have l4 := hSw.2.2.2.lt; (go_simp <;> with_reducible rfl))
              assumption; (try simp only [Act.put, gD, gE, gF])
              refine wpAnyH_done (by kernel_rfl) ?_ _
              have HB9 := Lib.hid (show Bb w #[.slice A1 b.ops.length c1, .int .i64 (x : Int), .slice A2 b.next.length c2] #[.slice none 0 0, .int .i64 0, .slice none 0 0] r W1.drew from HB1.out.below (below_drewN _ W1 1))
              have HW9 := Lib.hid (show W1.drew.ownsRow base 42 5 (.slice A1 b.ops.length c1) b.ops.length ((Fo.ops b.ops).flatMap opCells) from own_below HW1.out (below_drewN _ W1 1))
              clear HB1 HR1 HW1 hHeld
              generalize hW : W1.drew = W2 at HB9 HW9 ⊢
              clear hW
              have z0 := HB9.out.rb.cell 0
              have z1 := HB9.out.rb.cell 1
              have z2 := HB9.out.rb.cell 2
              have y0 := HB9.out.rb.frozen 0
              have y1 := HB9.out.rb.frozen 1
              have y2 := HB9.out.rb.frozen 2
              have p0 := HB9.out.ob.cell 0
              have p1 := HB9.out.ob.cell 1
              have p2 := HB9.out.ob.cell 2
              go_wp2
              refine bodyPost_ret (v := .agg #[.slice A1 b.ops.length c1, .int .i64 (x : Int), .slice A2 b.next.length c2]) (by simp [results, Tryz.results29, go_sem, z0, z1, z2]) rfl ?_
              have HE := Lib.hid (((HB9.out.res 0 (.slice A1 b.ops.length c1)).res 1 (.int .i64 (x : Int))).res 2 (.slice A2 b.next.length c2))
              have HO9 := Lib.hid (own_store_b (own_store_b (own_store_b (i := 0) (z := .slice A1 b.ops.length c1) HW9.out HB9.out.rb (by decide)) (i := 1) (z := .int .i64 (x : Int)) (HB9.out.res 0 (.slice A1 b.ops.length c1)).rb (by decide)) (i := 2) (z := .slice A2 b.next.length c2) ((HB9.out.res 0 (.slice A1 b.ops.length c1)).res 1 (.int .i64 (x : Int))).rb (by decide))
              have hbk := blk_none HH2.out HCd.out HXu.out HWx.out
              refine ⟨_, by rw [hbk], by rw [hbk]; exact HO9.out, ?_, .inl ⟨rfl, by rw [hbk]⟩⟩
              rw [HR.out]
              exact HE.out.gr
            | some nn =>
              have HWx := Lib.hid hwx
              have hfw := HR1.out.wv x nn hxl hwx
              have HFw := Lib.hid hfw
              clear hwx hfw
              refine wp_region_held_drew (S := (fun u : World => Bk u Bf 89 #[.slice (some ⟨Kb, 0, none⟩) k k, .slice (some ⟨Wb, 0, none⟩) k k, .slice (some ⟨Ob, 0, none⟩) k k] ∧ Bk u w.heap.size 40 #[.slice A1 b.ops.length c1, .int .i64 (x : Int), .slice A2 b.next.length c2] ∧ Bk u Kb 4 (slRow k fun v => .bool ((Fo.runs b.ops b.ops.length).wd (v : Int)).isSome) ∧ Bk u Wb 3 (slRow k fun v => .int .i64 (fw v)))) (by kernel_rfl) (⟨HR1.out.fb.below (below_drewN _ _ 1), HB1.out.ob.below (below_drewN _ _ 1), HR1.out.kn.below (below_drewN _ _ 1), HR1.out.wd.below (below_drewN _ _ 1)⟩) (fun hHeld => ?_)
              refine' wpAnyH_take (i := 0) (v := _) ?_ ?_ ?_ ?_ ?_ ?_ ?_ ?_
              rotate_left 2; (simp only [gA, gB, gC]; rfl); kernel_rfl; kernel_rfl; kernel_rfl; exact fun _ _ _ h => h; refine Or.inl ⟨?_, ?_⟩; focus (go_simp; done)
              focus (intro w hSw; have b0 := hSw.1.cell 0; have b1 := hSw.1.cell 1; have o1 := hSw.2.1.cell 1; have k0 := (hSw.2.2.1.cell x).trans (slRow_cell _ _ hxl); have w0 := (hSw.2.2.2.cell x).trans (slRow_cell _ _ hxl); simp only [HWx.out, Option.isSome_none, Option.isSome_some] at k0; have l1 := hSw.1.lt; have l2 := hSw.2.1.lt; have l3 := hSw.2.2.1.lt; have l4 := hSw.2.2.2.lt; (go_simp <;> with_reducible rfl))
              assumption; (try simp only [Act.put, gD, gE, gF])
              refine' wpAnyH_take (i := 1) (v := _) ?_ ?_ ?_ ?_ ?_ ?_ ?_ ?_
              rotate_left 2; (simp only [gA, gB, gC]; rfl); kernel_rfl; kernel_rfl; kernel_rfl; exact fun _ _ _ h => h; refine Or.inl ⟨?_, ?_⟩; focus (go_simp; done)
              focus (intro w hSw; have b0 := hSw.1.cell 0; have b1 := hSw.1.cell 1; have o1 := hSw.2.1.cell 1; have k0 := (hSw.2.2.1.cell x).trans (slRow_cell _ _ hxl); have w0 := (hSw.2.2.2.cell x).trans (slRow_cell _ _ hxl); simp only [HWx.out, Option.isSome_none, Option.isSome_some] at k0; have l1 := hSw.1.lt; have l2 := hSw.2.1.lt; have l3 := hSw.2.2.1.lt; have l4 := hSw.2.2.2.lt; (go_simp <;> with_reducible rfl))
              assumption; (try simp only [Act.put, gD, gE, gF])
              refine' wpAnyH_take (i := 2) (v := _) ?_ ?_ ?_ ?_ ?_ ?_ ?_ ?_
              rotate_left 2; (simp only [gA, gB, gC]; rfl); kernel_rfl; kernel_rfl; kernel_rfl; exact fun _ _ _ h => h; refine Or.inl ⟨?_, ?_⟩; focus (go_simp; done)
              focus (intro w hSw; have b0 := hSw.1.cell 0; have b1 := hSw.1.cell 1; have o1 := hSw.2.1.cell 1; have k0 := (hSw.2.2.1.cell x).trans (slRow_cell _ _ hxl); have w0 := (hSw.2.2.2.cell x).trans (slRow_cell _ _ hxl); simp only [HWx.out, Option.isSome_none, Option.isSome_some] at k0; have l1 := hSw.1.lt; have l2 := hSw.2.1.lt; have l3 := hSw.2.2.1.lt; have l4 := hSw.2.2.2.lt; (go_simp <;> with_reducible rfl))
              assumption; (try simp only [Act.put, gD, gE, gF])
              refine' wpAnyH_take (i := 3) (v := _) ?_ ?_ ?_ ?_ ?_ ?_ ?_ ?_
              rotate_left 2; (simp only [gA, gB, gC]; rfl); kernel_rfl; kernel_rfl; kernel_rfl; exact fun _ _ _ h => h; refine Or.inl ⟨?_, ?_⟩; focus (go_simp; done)
              focus (intro w hSw; have b0 := hSw.1.cell 0; have b1 := hSw.1.cell 1; have o1 := hSw.2.1.cell 1; have k0 := (hSw.2.2.1.cell x).trans (slRow_cell _ _ hxl); have w0 := (hSw.2.2.2.cell x).trans (slRow_cell _ _ hxl); simp only [HWx.out, Option.isSome_none, Option.isSome_some] at k0; have l1 := hSw.1.lt; have l2 := hSw.2.1.lt; have l3 := hSw.2.2.1.lt; have l4 := hSw.2.2.2.lt; (go_simp <;> with_reducible rfl))
              assumption; (try simp only [Act.put, gD, gE, gF])
              refine' wpAnyH_take (i := 4) (v := _) ?_ ?_ ?_ ?_ ?_ ?_ ?_ ?_
              rotate_left 2; (simp only [gA, gB, gC]; rfl); kernel_rfl; kernel_rfl; kernel_rfl; exact fun _ _ _ h => h; refine Or.inl ⟨?_, ?_⟩; focus (go_simp; done)
              focus (intro w hSw; have b0 := hSw.1.cell 0; have b1 := hSw.1.cell 1; have o1 := hSw.2.1.cell 1; have k0 := (hSw.2.2.1.cell x).trans (slRow_cell _ _ hxl); have w0 := (hSw.2.2.2.cell x).trans (slRow_cell _ _ hxl); simp only [HWx.out, Option.isSome_none, Option.isSome_some] at k0; have l1 := hSw.1.lt; have l2 := hSw.2.1.lt; have l3 := hSw.2.2.1.lt; have l4 := hSw.2.2.2.lt; (go_simp <;> with_reducible rfl))
              assumption; (try simp only [Act.put, gD, gE, gF])
              refine' wpAnyH_take (i := 5) (v := _) ?_ ?_ ?_ ?_ ?_ ?_ ?_ ?_
              rotate_left 2; (simp only [gA, gB, gC]; rfl); kernel_rfl; kernel_rfl; kernel_rfl; exact fun _ _ _ h => h; refine Or.inl ⟨?_, ?_⟩; focus (go_simp; done)
              focus (intro w hSw; have b0 := hSw.1.cell 0; have b1 := hSw.1.cell 1; have o1 := hSw.2.1.cell 1; have k0 := (hSw.2.2.1.cell x).trans (slRow_cell _ _ hxl); have w0 := (hSw.2.2.2.cell x).trans (slRow_cell _ _ hxl); simp only [HWx.out, Option.isSome_none, Option.isSome_some] at k0; have l1 := hSw.1.lt; have l2 := hSw.2.1.lt; have l3 := hSw.2.2.1.lt; have l4 := hSw.2.2.2.lt; (go_simp <;> with_reducible rfl))
              assumption; (try simp only [Act.put, gD, gE, gF])
              refine' wpAnyH_take (i := 6) (v := _) ?_ ?_ ?_ ?_ ?_ ?_ ?_ ?_
              rotate_left 2; (simp only [gA, gB, gC]; rfl); kernel_rfl; kernel_rfl; kernel_rfl; exact fun _ _ _ h => h; refine Or.inl ⟨?_, ?_⟩; focus (go_simp; done)
              focus (intro w hSw; have b0 := hSw.1.cell 0; have b1 := hSw.1.cell 1; have o1 := hSw.2.1.cell 1; have k0 := (hSw.2.2.1.cell x).trans (slRow_cell _ _ hxl); have w0 := (hSw.2.2.2.cell x).trans (slRow_cell _ _ hxl); simp only [HWx.out, Option.isSome_none, Option.isSome_some] at k0; have l1 := hSw.1.lt; have l2 := hSw.2.1.lt; have l3 := hSw.2.2.1.lt; have l4 := hSw.2.2.2.lt; (go_simp <;> with_reducible rfl))
              assumption; (try simp only [Act.put, gD, gE, gF])
              refine' wpAnyH_take (i := 7) (v := _) ?_ ?_ ?_ ?_ ?_ ?_ ?_ ?_
              rotate_left 2; (simp only [gA, gB, gC]; rfl); kernel_rfl; kernel_rfl; kernel_rfl; exact fun _ _ _ h => h; refine Or.inl ⟨?_, ?_⟩; focus (go_simp; done)
              focus (intro w hSw; have b0 := hSw.1.cell 0; have b1 := hSw.1.cell 1; have o1 := hSw.2.1.cell 1; have k0 := (hSw.2.2.1.cell x).trans (slRow_cell _ _ hxl); have w0 := (hSw.2.2.2.cell x).trans (slRow_cell _ _ hxl); simp only [HWx.out, Option.isSome_none, Option.isSome_some] at k0; have l1 := hSw.1.lt; have l2 := hSw.2.1.lt; have l3 := hSw.2.2.1.lt; have l4 := hSw.2.2.2.lt; (go_simp <;> with_reducible rfl))
              assumption; (try simp only [Act.put, gD, gE, gF])
              refine wpAnyH_done (by kernel_rfl) ?_ _
              have HB2 := Lib.hid (show Bb w #[.slice A1 b.ops.length c1, .int .i64 (x : Int), .slice A2 b.next.length c2] #[.slice none 0 0, .int .i64 0, .slice none 0 0] r W1.drew from HB1.out.below (below_drewN _ W1 1))
              have HW2 := Lib.hid (show W1.drew.ownsRow base 42 5 (.slice A1 b.ops.length c1) b.ops.length ((Fo.ops b.ops).flatMap opCells) from own_below HW1.out (below_drewN _ W1 1))
              have HR2 := Lib.hid (show Rf k Bf Kb Wb Ob _ fw W1.drew from HR1.out.below (below_drewN _ W1 1))
              clear HB1 HR1 HW1 hHeld
              generalize hW : W1.drew = W2 at HB2 HW2 HR2 ⊢
              clear hW
              go_upto_region 14 with fail
              by_cases hz : nn = 0
              · subst hz
                refine wp_region_held_drew (S := (fun u : World => Bk u Bf 89 #[.slice (some ⟨Kb, 0, none⟩) k k, .slice (some ⟨Wb, 0, none⟩) k k, .slice (some ⟨Ob, 0, none⟩) k k] ∧ Bk u w.heap.size 40 #[.slice A1 b.ops.length c1, .int .i64 (x : Int), .slice A2 b.next.length c2] ∧ Bk u Kb 4 (slRow k fun v => .bool ((Fo.runs b.ops b.ops.length).wd (v : Int)).isSome) ∧ Bk u Wb 3 (slRow k fun v => .int .i64 (fw v)))) (by kernel_rfl) (⟨HR2.out.fb.below (below_drewN _ _ 1), HB2.out.ob.below (below_drewN _ _ 1), HR2.out.kn.below (below_drewN _ _ 1), HR2.out.wd.below (below_drewN _ _ 1)⟩) (fun hHeld => ?_)
                refine' wpAnyH_take (i := 0) (v := _) ?_ ?_ ?_ ?_ ?_ ?_ ?_ ?_
                rotate_left 2; (simp only [gA, gB, gC]; rfl); kernel_rfl; kernel_rfl; kernel_rfl; exact fun _ _ _ h => h; refine Or.inl ⟨?_, ?_⟩; focus (go_simp; done)
                focus (intro w hSw; have b0 := hSw.1.cell 0; have b1 := hSw.1.cell 1; have o1 := hSw.2.1.cell 1; have w0 := (hSw.2.2.2.cell x).trans (slRow_cell _ _ hxl); rw [HFw.out] at w0; have l1 := hSw.1.lt; have l2 := hSw.2.1.lt; have l4 := hSw.2.2.2.lt; (go_simp <;> with_reducible rfl))
                assumption; (try simp only [Act.put, gD, gE, gF])
                refine' wpAnyH_take (i := 1) (v := _) ?_ ?_ ?_ ?_ ?_ ?_ ?_ ?_
                rotate_left 2; (simp only [gA, gB, gC]; rfl); kernel_rfl; kernel_rfl; kernel_rfl; exact fun _ _ _ h => h; refine Or.inl ⟨?_, ?_⟩; focus (go_simp; done)
                focus (intro w hSw; have b0 := hSw.1.cell 0; have b1 := hSw.1.cell 1; have o1 := hSw.2.1.cell 1; have w0 := (hSw.2.2.2.cell x).trans (slRow_cell _ _ hxl); rw [HFw.out] at w0; have l1 := hSw.1.lt; have l2 := hSw.2.1.lt; have l4 := hSw.2.2.2.lt; (go_simp <;> with_reducible rfl))
                assumption; (try simp only [Act.put, gD, gE, gF])
                refine' wpAnyH_take (i := 2) (v := _) ?_ ?_ ?_ ?_ ?_ ?_ ?_ ?_
                rotate_left 2; (simp only [gA, gB, gC]; rfl); kernel_rfl; kernel_rfl; kernel_rfl; exact fun _ _ _ h => h; refine Or.inl ⟨?_, ?_⟩; focus (go_simp; done)
                focus (intro w hSw; have b0 := hSw.1.cell 0; have b1 := hSw.1.cell 1; have o1 := hSw.2.1.cell 1; have w0 := (hSw.2.2.2.cell x).trans (slRow_cell _ _ hxl); rw [HFw.out] at w0; have l1 := hSw.1.lt; have l2 := hSw.2.1.lt; have l4 := hSw.2.2.2.lt; (go_simp <;> with_reducible rfl))
                assumption; (try simp only [Act.put, gD, gE, gF])
                refine' wpAnyH_take (i := 3) (v := _) ?_ ?_ ?_ ?_ ?_ ?_ ?_ ?_
                rotate_left 2; (simp only [gA, gB, gC]; rfl); kernel_rfl; kernel_rfl; kernel_rfl; exact fun _ _ _ h => h; refine Or.inl ⟨?_, ?_⟩; focus (go_simp; done)
                focus (intro w hSw; have b0 := hSw.1.cell 0; have b1 := hSw.1.cell 1; have o1 := hSw.2.1.cell 1; have w0 := (hSw.2.2.2.cell x).trans (slRow_cell _ _ hxl); rw [HFw.out] at w0; have l1 := hSw.1.lt; have l2 := hSw.2.1.lt; have l4 := hSw.2.2.2.lt; (go_simp <;> with_reducible rfl))
                assumption; (try simp only [Act.put, gD, gE, gF])
                refine' wpAnyH_take (i := 4) (v := _) ?_ ?_ ?_ ?_ ?_ ?_ ?_ ?_
                rotate_left 2; (simp only [gA, gB, gC]; rfl); kernel_rfl; kernel_rfl; kernel_rfl; exact fun _ _ _ h => h; refine Or.inl ⟨?_, ?_⟩; focus (go_simp; done)
                focus (intro w hSw; have b0 := hSw.1.cell 0; have b1 := hSw.1.cell 1; have o1 := hSw.2.1.cell 1; have w0 := (hSw.2.2.2.cell x).trans (slRow_cell _ _ hxl); rw [HFw.out] at w0; have l1 := hSw.1.lt; have l2 := hSw.2.1.lt; have l4 := hSw.2.2.2.lt; (go_simp <;> with_reducible rfl))
                assumption; (try simp only [Act.put, gD, gE, gF])
                refine' wpAnyH_take (i := 5) (v := _) ?_ ?_ ?_ ?_ ?_ ?_ ?_ ?_
                rotate_left 2; (simp only [gA, gB, gC]; rfl); kernel_rfl; kernel_rfl; kernel_rfl; exact fun _ _ _ h => h; refine Or.inl ⟨?_, ?_⟩; focus (go_simp; done)
                focus (intro w hSw; have b0 := hSw.1.cell 0; have b1 := hSw.1.cell 1; have o1 := hSw.2.1.cell 1; have w0 := (hSw.2.2.2.cell x).trans (slRow_cell _ _ hxl); rw [HFw.out] at w0; have l1 := hSw.1.lt; have l2 := hSw.2.1.lt; have l4 := hSw.2.2.2.lt; (go_simp <;> with_reducible rfl))
                assumption; (try simp only [Act.put, gD, gE, gF])
                refine' wpAnyH_take (i := 6) (v := _) ?_ ?_ ?_ ?_ ?_ ?_ ?_ ?_
                rotate_left 2; (simp only [gA, gB, gC]; rfl); kernel_rfl; kernel_rfl; kernel_rfl; exact fun _ _ _ h => h; refine Or.inl ⟨?_, ?_⟩; focus (go_simp; done)
                focus (intro w hSw; have b0 := hSw.1.cell 0; have b1 := hSw.1.cell 1; have o1 := hSw.2.1.cell 1; have w0 := (hSw.2.2.2.cell x).trans (slRow_cell _ _ hxl); rw [HFw.out] at w0; have l1 := hSw.1.lt; have l2 := hSw.2.1.lt; have l4 := hSw.2.2.2.lt; (go_simp <;> with_reducible rfl))
                assumption; (try simp only [Act.put, gD, gE, gF])
                refine' wpAnyH_take (i := 7) (v := _) ?_ ?_ ?_ ?_ ?_ ?_ ?_ ?_
                rotate_left 2; (simp only [gA, gB, gC]; rfl); kernel_rfl; kernel_rfl; kernel_rfl; exact fun _ _ _ h => h; refine Or.inl ⟨?_, ?_⟩; focus (go_simp; done)
                focus (intro w hSw; have b0 := hSw.1.cell 0; have b1 := hSw.1.cell 1; have o1 := hSw.2.1.cell 1; have w0 := (hSw.2.2.2.cell x).trans (slRow_cell _ _ hxl); rw [HFw.out] at w0; have l1 := hSw.1.lt; have l2 := hSw.2.1.lt; have l4 := hSw.2.2.2.lt; (go_simp <;> with_reducible rfl))
                assumption; (try simp only [Act.put, gD, gE, gF])
                refine' wpAnyH_take (i := 8) (v := _) ?_ ?_ ?_ ?_ ?_ ?_ ?_ ?_
                rotate_left 2; (simp only [gA, gB, gC]; rfl); kernel_rfl; kernel_rfl; kernel_rfl; exact fun _ _ _ h => h; refine Or.inl ⟨?_, ?_⟩; focus (go_simp; done)
                focus (intro w hSw; have b0 := hSw.1.cell 0; have b1 := hSw.1.cell 1; have o1 := hSw.2.1.cell 1; have w0 := (hSw.2.2.2.cell x).trans (slRow_cell _ _ hxl); rw [HFw.out] at w0; have l1 := hSw.1.lt; have l2 := hSw.2.1.lt; have l4 := hSw.2.2.2.lt; (go_simp <;> with_reducible rfl))
                assumption; (try simp only [Act.put, gD, gE, gF])
                refine wpAnyH_done (by kernel_rfl) ?_ _
                have HB3 := Lib.hid (show Bb w #[.slice A1 b.ops.length c1, .int .i64 (x : Int), .slice A2 b.next.length c2] #[.slice none 0 0, .int .i64 0, .slice none 0 0] r W2.drew from HB2.out.below (below_drewN _ W2 1))
                have HW3 := Lib.hid (show W2.drew.ownsRow base 42 5 (.slice A1 b.ops.length c1) b.ops.length ((Fo.ops b.ops).flatMap opCells) from own_below HW2.out (below_drewN _ W2 1))
                have HR3 := Lib.hid (show Rf k Bf Kb Wb Ob _ fw W2.drew from HR2.out.below (below_drewN _ W2 1))
                clear HB2 HR2 HW2 hHeld
                generalize hW : W2.drew = W3 at HB3 HW3 HR3 ⊢
                clear hW
                have HXn := Lib.hid (own_grown_t HX.out HO.out (by decide) (HR.out ▸ HB3.out.gr))
                go_upto_region 16 with fail
                obtain ⟨g2, rfl⟩ : ∃ g2, A2 = some ⟨g2, 0, none⟩ := by
                  have h2 := HH2.out
                  rcases HX.out.2 with ⟨h, h0⟩ | ⟨g, cap, cur, h, _⟩
                  · omega
                  · injection h with h _ _
                    exact ⟨g, h⟩
                have hkl : (1 : Int) < b.next.length := by have := HH2.out; omega
                have xk := own_cellv HXn.out (j := 1) (x := .int .i64 (b.next.getD 1 0)) (by rw [List.getElem?_map, getD_some 0 (by have := HH2.out; omega)]; rfl)
                obtain ⟨nk, hnk⟩ : ∃ nk, b.next.getD 1 0 = nk := ⟨_, rfl⟩
                have HNk := Lib.hid hnk
                rw [hnk] at xk
                clear hnk
                have p2 := HB3.out.ob.cell 2
                have p1 := HB3.out.ob.cell 1
                have f1 := HB3.out.ob.frozen 1
                have f2 := HB3.out.ob.frozen 2
                have hlo := HB3.out.ob.lt
                have hg2 := (HXn.out.lt g2 rfl).2
                have hgw : g2 < w.heap.size := (HX.out.lt g2 rfl).2
                have hne : ¬ g2 = w.heap.size := by omega
                have hne2 : ¬ w.heap.size = g2 := by omega
                go_region
                obtain ⟨q, hq⟩ : ∃ q, W3.heap.size = q := ⟨_, rfl⟩
                have HB9 := Lib.hid (show Bb w #[.slice A1 b.ops.length c1, .int .i64 0, .slice (some ⟨q, 0, none⟩) 1 1] #[.slice none 0 0, .int .i64 0, .slice none 0 0] r (((W3.setCell ⟨w.heap.size, 1, none⟩ (.int .i64 0)).setCell ⟨w.heap.size, 2, none⟩ (.slice (some ⟨q, 0, none⟩) 1 1)).alloc (.cells #[.int .i64 nk] 3)).drew from (((HB3.out.box 1 (.int .i64 0) _ rfl).box 2 (.slice (some ⟨q, 0, none⟩) 1 1) _ rfl).below (bla (Below.refl _ _) _)).below (below_drewN _ _ 1))
                have HW9 := Lib.hid (show (((W3.setCell ⟨w.heap.size, 1, none⟩ (.int .i64 0)).setCell ⟨w.heap.size, 2, none⟩ (.slice (some ⟨q, 0, none⟩) 1 1)).alloc (.cells #[.int .i64 nk] 3)).drew.ownsRow base 42 5 (.slice A1 b.ops.length c1) b.ops.length ((Fo.ops b.ops).flatMap opCells) from own_below (own_below (own_store_b (own_store_b HW3.out HB3.out.ob (by decide)) (HB3.out.box 1 (.int .i64 0) _ rfl).ob (by decide)) (bla (Below.refl _ _) _)) (below_drewN _ _ 1))
                have HN9 := Lib.hid (show (((W3.setCell ⟨w.heap.size, 1, none⟩ (.int .i64 0)).setCell ⟨w.heap.size, 2, none⟩ (.slice (some ⟨q, 0, none⟩) 1 1)).alloc (.cells #[.int .i64 nk] 3)).drew.ownsRow w.heap.size 3 1 (.slice (some ⟨q, 0, none⟩) 1 1) 1 [.int .i64 nk] from own_below (by
                  have hs : ((W3.setCell ⟨w.heap.size, 1, none⟩ (.int .i64 0)).setCell ⟨w.heap.size, 2, none⟩ (.slice (some ⟨q, 0, none⟩) 1 1)).heap.size = q := by rw [World.size_setCell, World.size_setCell, hq]
                  have h := World.ownsRow_lit (e := 3) (size := 1) (base := w.heap.size) ((W3.setCell ⟨w.heap.size, 1, none⟩ (.int .i64 0)).setCell ⟨w.heap.size, 2, none⟩ (.slice (some ⟨q, 0, none⟩) 1 1)) #[.int .i64 nk] 1 (by rw [hs, ← hq]; exact HB3.out.gr.size) (by unfold maxLen; omega) rfl
                  rw [hs] at h
                  exact h) (below_drewN _ _ 1))
                rw [hq]
                clear HB3 HW3 HR3 p1 p2 f1 f2 hlo hq xk
                generalize hW : (World.alloc _ (.cells #[.int .i64 nk] 3)).drew = W4 at HB9 HW9 HN9 ⊢
                clear hW
                have z0 := HB9.out.rb.cell 0
                have z1 := HB9.out.rb.cell 1
                have z2 := HB9.out.rb.cell 2
                have y0 := HB9.out.rb.frozen 0
                have y1 := HB9.out.rb.frozen 1
                have y2 := HB9.out.rb.frozen 2
                have p0 := HB9.out.ob.cell 0
                have p1 := HB9.out.ob.cell 1
                have p2 := HB9.out.ob.cell 2
                go_wp2
                refine bodyPost_ret (v := .agg #[.slice A1 b.ops.length c1, .int .i64 0, .slice (some ⟨q, 0, none⟩) 1 1]) (by simp [results, Tryz.results29, go_sem, z0, z1, z2]) rfl ?_
                have HE := Lib.hid (((HB9.out.res 0 (.slice A1 b.ops.length c1)).res 1 (.int .i64 0)).res 2 (.slice (some ⟨q, 0, none⟩) 1 1))
                have HON := Lib.hid (own_store_b (own_store_b (own_store_b (i := 0) (z := .slice A1 b.ops.length c1) HN9.out HB9.out.rb (by decide)) (i := 1) (z := .int .i64 0) (HB9.out.res 0 (.slice A1 b.ops.length c1)).rb (by decide)) (i := 2) (z := .slice (some ⟨q, 0, none⟩) 1 1) ((HB9.out.res 0 (.slice A1 b.ops.length c1)).res 1 (.int .i64 0)).rb (by decide))
                have HO9 := Lib.hid (own_store_b (own_store_b (own_store_b (i := 0) (z := .slice A1 b.ops.length c1) HW9.out HB9.out.rb (by decide)) (i := 1) (z := .int .i64 0) (HB9.out.res 0 (.slice A1 b.ops.length c1)).rb (by decide)) (i := 2) (z := .slice (some ⟨q, 0, none⟩) 1 1) ((HB9.out.res 0 (.slice A1 b.ops.length c1)).res 1 (.int .i64 0)).rb (by decide))
                have hbk0 := blk_some HH2.out HCd.out HXu.out HWx.out
                have hbk : Fo.blk b = ⟨Fo.ops b.ops, 0, [nk]⟩ := by rw [hbk0, if_pos rfl, HNk.out]
                refine ⟨_, by rw [hbk], by rw [hbk]; exact HO9.out, ?_, .inr (by rw [hbk]; exact HON.out)⟩
                rw [HR.out]
                exact HE.out.gr
              · skip
                refine wp_region_held_drew (S := (fun u : World => Bk u Bf 89 #[.slice (some ⟨Kb, 0, none⟩) k k, .slice (some ⟨Wb, 0, none⟩) k k, .slice (some ⟨Ob, 0, none⟩) k k] ∧ Bk u w.heap.size 40 #[.slice A1 b.ops.length c1, .int .i64 (x : Int), .slice A2 b.next.length c2] ∧ Bk u Kb 4 (slRow k fun v => .bool ((Fo.runs b.ops b.ops.length).wd (v : Int)).isSome) ∧ Bk u Wb 3 (slRow k fun v => .int .i64 (fw v)))) (by kernel_rfl) (⟨HR2.out.fb.below (below_drewN _ _ 1), HB2.out.ob.below (below_drewN _ _ 1), HR2.out.kn.below (below_drewN _ _ 1), HR2.out.wd.below (below_drewN _ _ 1)⟩) (fun hHeld => ?_)
                refine' wpAnyH_take (i := 0) (v := _) ?_ ?_ ?_ ?_ ?_ ?_ ?_ ?_
                rotate_left 2; (simp only [gA, gB, gC]; rfl); kernel_rfl; kernel_rfl; kernel_rfl; exact fun _ _ _ h => h; refine Or.inl ⟨?_, ?_⟩; focus (go_simp; done)
                focus (intro w hSw; have b0 := hSw.1.cell 0; have b1 := hSw.1.cell 1; have o1 := hSw.2.1.cell 1; have w0 := (hSw.2.2.2.cell x).trans (slRow_cell _ _ hxl); rw [HFw.out] at w0; have l1 := hSw.1.lt; have l2 := hSw.2.1.lt; have l4 := hSw.2.2.2.lt; (go_simp <;> with_reducible rfl))
                assumption; (try simp only [Act.put, gD, gE, gF])
                refine' wpAnyH_take (i := 1) (v := _) ?_ ?_ ?_ ?_ ?_ ?_ ?_ ?_
                rotate_left 2; (simp only [gA, gB, gC]; rfl); kernel_rfl; kernel_rfl; kernel_rfl; exact fun _ _ _ h => h; refine Or.inl ⟨?_, ?_⟩; focus (go_simp; done)
                focus (intro w hSw; have b0 := hSw.1.cell 0; have b1 := hSw.1.cell 1; have o1 := hSw.2.1.cell 1; have w0 := (hSw.2.2.2.cell x).trans (slRow_cell _ _ hxl); rw [HFw.out] at w0; have l1 := hSw.1.lt; have l2 := hSw.2.1.lt; have l4 := hSw.2.2.2.lt; (go_simp <;> with_reducible rfl))
                assumption; (try simp only [Act.put, gD, gE, gF])
                refine' wpAnyH_take (i := 2) (v := _) ?_ ?_ ?_ ?_ ?_ ?_ ?_ ?_
                rotate_left 2; (simp only [gA, gB, gC]; rfl); kernel_rfl; kernel_rfl; kernel_rfl; exact fun _ _ _ h => h; refine Or.inl ⟨?_, ?_⟩; focus (go_simp; done)
                focus (intro w hSw; have b0 := hSw.1.cell 0; have b1 := hSw.1.cell 1; have o1 := hSw.2.1.cell 1; have w0 := (hSw.2.2.2.cell x).trans (slRow_cell _ _ hxl); rw [HFw.out] at w0; have l1 := hSw.1.lt; have l2 := hSw.2.1.lt; have l4 := hSw.2.2.2.lt; (go_simp <;> with_reducible rfl))
                assumption; (try simp only [Act.put, gD, gE, gF])
                refine' wpAnyH_take (i := 3) (v := _) ?_ ?_ ?_ ?_ ?_ ?_ ?_ ?_
                rotate_left 2; (simp only [gA, gB, gC]; rfl); kernel_rfl; kernel_rfl; kernel_rfl; exact fun _ _ _ h => h; refine Or.inl ⟨?_, ?_⟩; focus (go_simp; done)
                focus (intro w hSw; have b0 := hSw.1.cell 0; have b1 := hSw.1.cell 1; have o1 := hSw.2.1.cell 1; have w0 := (hSw.2.2.2.cell x).trans (slRow_cell _ _ hxl); rw [HFw.out] at w0; have l1 := hSw.1.lt; have l2 := hSw.2.1.lt; have l4 := hSw.2.2.2.lt; (go_simp <;> with_reducible rfl))
                assumption; (try simp only [Act.put, gD, gE, gF])
                refine' wpAnyH_take (i := 4) (v := _) ?_ ?_ ?_ ?_ ?_ ?_ ?_ ?_
                rotate_left 2; (simp only [gA, gB, gC]; rfl); kernel_rfl; kernel_rfl; kernel_rfl; exact fun _ _ _ h => h; refine Or.inl ⟨?_, ?_⟩; focus (go_simp; done)
                focus (intro w hSw; have b0 := hSw.1.cell 0; have b1 := hSw.1.cell 1; have o1 := hSw.2.1.cell 1; have w0 := (hSw.2.2.2.cell x).trans (slRow_cell _ _ hxl); rw [HFw.out] at w0; have l1 := hSw.1.lt; have l2 := hSw.2.1.lt; have l4 := hSw.2.2.2.lt; (go_simp <;> with_reducible rfl))
                assumption; (try simp only [Act.put, gD, gE, gF])
                refine' wpAnyH_take (i := 5) (v := _) ?_ ?_ ?_ ?_ ?_ ?_ ?_ ?_
                rotate_left 2; (simp only [gA, gB, gC]; rfl); kernel_rfl; kernel_rfl; kernel_rfl; exact fun _ _ _ h => h; refine Or.inl ⟨?_, ?_⟩; focus (go_simp; done)
                focus (intro w hSw; have b0 := hSw.1.cell 0; have b1 := hSw.1.cell 1; have o1 := hSw.2.1.cell 1; have w0 := (hSw.2.2.2.cell x).trans (slRow_cell _ _ hxl); rw [HFw.out] at w0; have l1 := hSw.1.lt; have l2 := hSw.2.1.lt; have l4 := hSw.2.2.2.lt; (go_simp <;> with_reducible rfl))
                assumption; (try simp only [Act.put, gD, gE, gF])
                refine' wpAnyH_take (i := 6) (v := _) ?_ ?_ ?_ ?_ ?_ ?_ ?_ ?_
                rotate_left 2; (simp only [gA, gB, gC]; rfl); kernel_rfl; kernel_rfl; kernel_rfl; exact fun _ _ _ h => h; refine Or.inl ⟨?_, ?_⟩; focus (go_simp; done)
                focus (intro w hSw; have b0 := hSw.1.cell 0; have b1 := hSw.1.cell 1; have o1 := hSw.2.1.cell 1; have w0 := (hSw.2.2.2.cell x).trans (slRow_cell _ _ hxl); rw [HFw.out] at w0; have l1 := hSw.1.lt; have l2 := hSw.2.1.lt; have l4 := hSw.2.2.2.lt; (go_simp <;> with_reducible rfl))
                assumption; (try simp only [Act.put, gD, gE, gF])
                refine' wpAnyH_take (i := 7) (v := _) ?_ ?_ ?_ ?_ ?_ ?_ ?_ ?_
                rotate_left 2; (simp only [gA, gB, gC]; rfl); kernel_rfl; kernel_rfl; kernel_rfl; exact fun _ _ _ h => h; refine Or.inl ⟨?_, ?_⟩; focus (go_simp; done)
                focus (intro w hSw; have b0 := hSw.1.cell 0; have b1 := hSw.1.cell 1; have o1 := hSw.2.1.cell 1; have w0 := (hSw.2.2.2.cell x).trans (slRow_cell _ _ hxl); rw [HFw.out] at w0; have l1 := hSw.1.lt; have l2 := hSw.2.1.lt; have l4 := hSw.2.2.2.lt; (go_simp <;> with_reducible rfl))
                assumption; (try simp only [Act.put, gD, gE, gF])
                refine' wpAnyH_take (i := 8) (v := _) ?_ ?_ ?_ ?_ ?_ ?_ ?_ ?_
                rotate_left 2; (simp only [gA, gB, gC]; rfl); kernel_rfl; kernel_rfl; kernel_rfl; exact fun _ _ _ h => h; refine Or.inl ⟨?_, ?_⟩; focus (go_simp; done)
                focus (intro w hSw; have b0 := hSw.1.cell 0; have b1 := hSw.1.cell 1; have o1 := hSw.2.1.cell 1; have w0 := (hSw.2.2.2.cell x).trans (slRow_cell _ _ hxl); rw [HFw.out] at w0; have l1 := hSw.1.lt; have l2 := hSw.2.1.lt; have l4 := hSw.2.2.2.lt; (go_simp <;> with_reducible rfl))
                assumption; (try simp only [Act.put, gD, gE, gF])
                refine wpAnyH_done (by kernel_rfl) ?_ _
                have HB3 := Lib.hid (show Bb w #[.slice A1 b.ops.length c1, .int .i64 (x : Int), .slice A2 b.next.length c2] #[.slice none 0 0, .int .i64 0, .slice none 0 0] r W2.drew from HB2.out.below (below_drewN _ W2 1))
                have HW3 := Lib.hid (show W2.drew.ownsRow base 42 5 (.slice A1 b.ops.length c1) b.ops.length ((Fo.ops b.ops).flatMap opCells) from own_below HW2.out (below_drewN _ W2 1))
                have HR3 := Lib.hid (show Rf k Bf Kb Wb Ob _ fw W2.drew from HR2.out.below (below_drewN _ W2 1))
                clear HB2 HR2 HW2 hHeld
                generalize hW : W2.drew = W3 at HB3 HW3 HR3 ⊢
                clear hW
                have HXn := Lib.hid (own_grown_t HX.out HO.out (by decide) (HR.out ▸ HB3.out.gr))
                go_upto_region 16 with fail
                obtain ⟨g2, rfl⟩ : ∃ g2, A2 = some ⟨g2, 0, none⟩ := by
                  have h2 := HH2.out
                  rcases HX.out.2 with ⟨h, h0⟩ | ⟨g, cap, cur, h, _⟩
                  · omega
                  · injection h with h _ _
                    exact ⟨g, h⟩
                have hkl : (0 : Int) < b.next.length := by have := HH2.out; omega
                have xk := own_cellv HXn.out (j := 0) (x := .int .i64 (b.next.getD 0 0)) (by rw [List.getElem?_map, getD_some 0 (by have := HH2.out; omega)]; rfl)
                obtain ⟨nk, hnk⟩ : ∃ nk, b.next.getD 0 0 = nk := ⟨_, rfl⟩
                have HNk := Lib.hid hnk
                rw [hnk] at xk
                clear hnk
                have p2 := HB3.out.ob.cell 2
                have p1 := HB3.out.ob.cell 1
                have f1 := HB3.out.ob.frozen 1
                have f2 := HB3.out.ob.frozen 2
                have hlo := HB3.out.ob.lt
                have hg2 := (HXn.out.lt g2 rfl).2
                have hgw : g2 < w.heap.size := (HX.out.lt g2 rfl).2
                have hne : ¬ g2 = w.heap.size := by omega
                have hne2 : ¬ w.heap.size = g2 := by omega
                go_region
                obtain ⟨q, hq⟩ : ∃ q, W3.heap.size = q := ⟨_, rfl⟩
                have HB9 := Lib.hid (show Bb w #[.slice A1 b.ops.length c1, .int .i64 0, .slice (some ⟨q, 0, none⟩) 1 1] #[.slice none 0 0, .int .i64 0, .slice none 0 0] r (((W3.setCell ⟨w.heap.size, 1, none⟩ (.int .i64 0)).setCell ⟨w.heap.size, 2, none⟩ (.slice (some ⟨q, 0, none⟩) 1 1)).alloc (.cells #[.int .i64 nk] 3)).drew from (((HB3.out.box 1 (.int .i64 0) _ rfl).box 2 (.slice (some ⟨q, 0, none⟩) 1 1) _ rfl).below (bla (Below.refl _ _) _)).below (below_drewN _ _ 1))
                have HW9 := Lib.hid (show (((W3.setCell ⟨w.heap.size, 1, none⟩ (.int .i64 0)).setCell ⟨w.heap.size, 2, none⟩ (.slice (some ⟨q, 0, none⟩) 1 1)).alloc (.cells #[.int .i64 nk] 3)).drew.ownsRow base 42 5 (.slice A1 b.ops.length c1) b.ops.length ((Fo.ops b.ops).flatMap opCells) from own_below (own_below (own_store_b (own_store_b HW3.out HB3.out.ob (by decide)) (HB3.out.box 1 (.int .i64 0) _ rfl).ob (by decide)) (bla (Below.refl _ _) _)) (below_drewN _ _ 1))
                have HN9 := Lib.hid (show (((W3.setCell ⟨w.heap.size, 1, none⟩ (.int .i64 0)).setCell ⟨w.heap.size, 2, none⟩ (.slice (some ⟨q, 0, none⟩) 1 1)).alloc (.cells #[.int .i64 nk] 3)).drew.ownsRow w.heap.size 3 1 (.slice (some ⟨q, 0, none⟩) 1 1) 1 [.int .i64 nk] from own_below (by
                  have hs : ((W3.setCell ⟨w.heap.size, 1, none⟩ (.int .i64 0)).setCell ⟨w.heap.size, 2, none⟩ (.slice (some ⟨q, 0, none⟩) 1 1)).heap.size = q := by rw [World.size_setCell, World.size_setCell, hq]
                  have h := World.ownsRow_lit (e := 3) (size := 1) (base := w.heap.size) ((W3.setCell ⟨w.heap.size, 1, none⟩ (.int .i64 0)).setCell ⟨w.heap.size, 2, none⟩ (.slice (some ⟨q, 0, none⟩) 1 1)) #[.int .i64 nk] 1 (by rw [hs, ← hq]; exact HB3.out.gr.size) (by unfold maxLen; omega) rfl
                  rw [hs] at h
                  exact h) (below_drewN _ _ 1))
                rw [hq]
                clear HB3 HW3 HR3 p1 p2 f1 f2 hlo hq xk
                generalize hW : (World.alloc _ (.cells #[.int .i64 nk] 3)).drew = W4 at HB9 HW9 HN9 ⊢
                clear hW
                have z0 := HB9.out.rb.cell 0
                have z1 := HB9.out.rb.cell 1
                have z2 := HB9.out.rb.cell 2
                have y0 := HB9.out.rb.frozen 0
                have y1 := HB9.out.rb.frozen 1
                have y2 := HB9.out.rb.frozen 2
                have p0 := HB9.out.ob.cell 0
                have p1 := HB9.out.ob.cell 1
                have p2 := HB9.out.ob.cell 2
                go_wp2
                refine bodyPost_ret (v := .agg #[.slice A1 b.ops.length c1, .int .i64 0, .slice (some ⟨q, 0, none⟩) 1 1]) (by simp [results, Tryz.results29, go_sem, z0, z1, z2]) rfl ?_
                have HE := Lib.hid (((HB9.out.res 0 (.slice A1 b.ops.length c1)).res 1 (.int .i64 0)).res 2 (.slice (some ⟨q, 0, none⟩) 1 1))
                have HON := Lib.hid (own_store_b (own_store_b (own_store_b (i := 0) (z := .slice A1 b.ops.length c1) HN9.out HB9.out.rb (by decide)) (i := 1) (z := .int .i64 0) (HB9.out.res 0 (.slice A1 b.ops.length c1)).rb (by decide)) (i := 2) (z := .slice (some ⟨q, 0, none⟩) 1 1) ((HB9.out.res 0 (.slice A1 b.ops.length c1)).res 1 (.int .i64 0)).rb (by decide))
                have HO9 := Lib.hid (own_store_b (own_store_b (own_store_b (i := 0) (z := .slice A1 b.ops.length c1) HW9.out HB9.out.rb (by decide)) (i := 1) (z := .int .i64 0) (HB9.out.res 0 (.slice A1 b.ops.length c1)).rb (by decide)) (i := 2) (z := .slice (some ⟨q, 0, none⟩) 1 1) ((HB9.out.res 0 (.slice A1 b.ops.length c1)).res 1 (.int .i64 0)).rb (by decide))
                have hbk0 := blk_some HH2.out HCd.out HXu.out HWx.out
                have hbk : Fo.blk b = ⟨Fo.ops b.ops, 0, [nk]⟩ := by rw [hbk0, if_neg hz, HNk.out]
                refine ⟨_, by rw [hbk], by rw [hbk]; exact HO9.out, ?_, .inr (by rw [hbk]; exact HON.out)⟩
                rw [HR.out]
                exact HE.out.gr
          · have h2' : ¬ (b.next.length : Int) = 2 := by omega
            have HB9 := HBb
            have HW9 := HFin
            clear hok
            have z0 := HB9.out.rb.cell 0
            have z1 := HB9.out.rb.cell 1
            have z2 := HB9.out.rb.cell 2
            have y0 := HB9.out.rb.frozen 0
            have y1 := HB9.out.rb.frozen 1
            have y2 := HB9.out.rb.frozen 2
            have p0 := HB9.out.ob.cell 0
            have p1 := HB9.out.ob.cell 1
            have p2 := HB9.out.ob.cell 2
            go_wp2
            refine bodyPost_ret (v := .agg #[.slice A1 b.ops.length c1, .int .i64 b.cond, .slice A2 b.next.length c2]) (by simp [results, Tryz.results29, go_sem, z0, z1, z2]) rfl ?_
            have HE := Lib.hid (((HB9.out.res 0 (.slice A1 b.ops.length c1)).res 1 (.int .i64 b.cond)).res 2 (.slice A2 b.next.length c2))
            have HO9 := Lib.hid (own_store_b (own_store_b (own_store_b (i := 0) (z := .slice A1 b.ops.length c1) HW9.out HB9.out.rb (by decide)) (i := 1) (z := .int .i64 b.cond) (HB9.out.res 0 (.slice A1 b.ops.length c1)).rb (by decide)) (i := 2) (z := .slice A2 b.next.length c2) ((HB9.out.res 0 (.slice A1 b.ops.length c1)).res 1 (.int .i64 b.cond)).rb (by decide))
            have hbk : Fo.blk b = ⟨Fo.ops b.ops, b.cond, b.next⟩ := by
              unfold Fo.blk
              simp only [if_neg h2]
            refine ⟨_, by rw [hbk], by rw [hbk]; exact HO9.out, ?_, .inl ⟨rfl, by rw [hbk]⟩⟩
            rw [HR.out]
            exact HE.out.gr
end Go.Proofs.YtojflhkmonicoaaGreat
