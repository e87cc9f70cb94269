/- What folding does, as plain functions of lists. No condition. Maps of numbers that a call has made, as functions. No condition. The code of layer 14: what is known of a variable, and what an operation becomes. No condition. -/
import Derived.Test.YtojflhkmonicoaaGreatGrMath
import Derived.Test.YtojflhkmonicoaaGreatGrMem
import Derived.Maps.OwnSet
import Derived.Maps.RangeWalk
import Derived.Test.YtojflhkmonicoaaGreatWdK
namespace Go.Proofs.YtojflhkmonicoaaGreat
namespace Fo
open Go.RowKit (wrap32 wrap64)
/-- What is known of variables: words, and of what they are copies. -/
structure S where
  wd : Int → Option Int
  cp : Int → Option Int
def s0 : S := ⟨fun _ => none, fun _ => none⟩
def use (s : S) (v : Int) : Int := (s.cp v).getD v
/-- The operands' sources. -/
def direct (s : S) (o : Gr.Op) : Gr.Op :=
  if o.kind = 3 ∨ o.kind = 5 then { o with a := use s o.a, b := use s o.b } else if o.kind = 2 ∨ o.kind = 4 then { o with a := use s o.a } else o
/-- What an operation computes from known words. -/
def result (s : S) (o : Gr.Op) : Option Int :=
  if o.kind = 2 then s.wd o.a else if o.kind = 3 then (s.wd o.a).bind fun x => (s.wd o.b).map fun y => val o.imm x y else none
def const (s : S) (o : Gr.Op) : Gr.Op := match result s o with
  | some n => ⟨1, o.dst, 0, 0, n⟩
  | none => o
def upd (f : Int → Option Int) (d : Int) (x : Option Int) : Int → Option Int := fun v => if v = d then x else f v
/-- No variable is a copy of d any more, nor is d one. -/
def cut (f : Int → Option Int) (d : Int) : Int → Option Int := fun v => if v = d ∨ f v = some d then none else f v
def learn (s : S) (o : Gr.Op) : S :=
  if o.kind = 5 ∨ o.kind = 6 ∨ o.kind = 7 then s
  else ⟨upd s.wd o.dst (if o.kind = 1 then some o.imm else none), if o.kind = 2 ∧ o.a ≠ o.dst then upd (cut s.cp o.dst) o.dst (some o.a) else cut s.cp o.dst⟩
def step (s : S) (o : Gr.Op) : Gr.Op := const s (direct s o)
/-- The first k operations, folded, and what is known behind them. -/
def runs (l : List Gr.Op) : Nat → S
  | 0 => s0
  | k + 1 => learn (runs l k) (step (runs l k) (l.getD k Gr.op0))
def opAt (l : List Gr.Op) (k : Nat) : Gr.Op := step (runs l k) (l.getD k Gr.op0)
def ops (l : List Gr.Op) : List Gr.Op := (List.range l.length).map (opAt l)
/-- A block, folded. -/
def blk (b : Gr.Blk) : Gr.Blk :=
  let s := runs b.ops b.ops.length
  if b.next.length = 2 then
    match s.wd (use s b.cond) with
    | some n => ⟨ops b.ops, 0, [if n = 0 then b.next.getD 1 0 else b.next.getD 0 0]⟩
    | none => ⟨ops b.ops, use s b.cond, b.next⟩
  else ⟨ops b.ops, b.cond, b.next⟩
def gr (g : Gr.G) : Gr.G := { g with blks := g.blks.map blk }
def ones (n : Nat) : List (List Int) := (List.range n).map fun (i : Nat) => [(i : Int)]
/-- All that is known speaks of variables below V, and of words. -/
structure Ok (V : Int) (s : S) : Prop where
  cp : ∀ v u, s.cp v = some u → 0 ≤ u ∧ u < V
  wd : ∀ v n, s.wd v = some n → -2147483648 ≤ n ∧ n ≤ 2147483647
theorem ok0 (V : Int) : Ok V s0 := ⟨fun v u h => (by cases h), fun v u h => (by cases h)⟩
theorem use_in {V : Int} {s : S} (h : Ok V s) {v : Int} (h0 : 0 ≤ v) (hV : v < V) : 0 ≤ use s v ∧ use s v < V := by
  unfold use
  cases hc : s.cp v with
  | none => exact ⟨h0, hV⟩
  | some u => exact h.cp v u hc
theorem Ok.learn {V : Int} {s : S} (h : Ok V s) {o : Gr.Op} (hi : o.kind = 1 → -2147483648 ≤ o.imm ∧ o.imm ≤ 2147483647) (ha : o.kind = 2 → 0 ≤ o.a ∧ o.a < V) : Ok V (learn s o) := by
  unfold Fo.learn
  by_cases hk : o.kind = 5 ∨ o.kind = 6 ∨ o.kind = 7
  · rw [if_pos hk]; exact h
  · rw [if_neg hk]
    have hcut : ∀ v u, cut s.cp o.dst v = some u → 0 ≤ u ∧ u < V := fun v u hv => by
      unfold cut at hv
      split at hv
      · cases hv
      · exact h.cp v u hv
    refine ⟨fun v u hv => ?_, fun v n hv => ?_⟩
    · simp only at hv
      split at hv
      · rename_i h2
        unfold upd at hv
        split at hv
        · injection hv with hv; subst hv; exact ha h2.1
        · exact hcut v u hv
      · exact hcut v u hv
    · simp only [upd] at hv
      split at hv
      · split at hv
        · rename_i h1
          injection hv with hv
          subst hv
          exact hi h1
        · cases hv
      · exact h.wd v n hv
end Fo
end Go.Proofs.YtojflhkmonicoaaGreat
namespace Go.Proofs.YtojflhkmonicoaaGreat
open Go.RowKit Go.Maps
set_option linter.unusedVariables false
set_option linter.unusedSimpArgs false
theorem mlaw : Keyed Tryz.prog 3 := int_keyed Tryz.underlying3
theorem mzero (w : World) : (zeroValue 3).run Tryz.prog w = .ok (.int .i64 0) w := by kernel_rfl
/-- A number that an int can be. -/
def Wf (z : Int) : Prop := -9223372036854775808 ≤ z ∧ z ≤ 9223372036854775807
theorem Wf.lit {z : Int} (h : Wf z) : (Lit.int .i64 z).wf = true := WalkArith.wf_i64 h
/-- Block b is a map of at most n entries: at z it has f z. -/
def MapF (u : World) (b n : Nat) (f : Int → Option Int) : Prop :=
  ∃ D : DataW Unit, u.ownsMap Tryz.prog 3 (plainElem Tryz.prog 3) b n D ∧ ∀ z, Wf z → Maps.has D (.int .i64 z) = (f z).isSome ∧ D.atKey (.int .i64 z) (.lit (.int .i64 0)) = .lit (.int .i64 ((f z).getD 0))
theorem MapF.lt {u : World} {b n : Nat} {f : Int → Option Int} (h : MapF u b n f) : b < u.heap.size := by
  obtain ⟨D, ⟨es, clock, hb, _⟩, _⟩ := h
  rcases Nat.lt_or_ge b u.heap.size with h | h
  · exact h
  · rw [Array.getElem?_eq_none h] at hb; exact absurd hb (by simp)
theorem MapF.kept {u u' : World} {b n : Nat} {f : Int → Option Int} (h : MapF u b n f) (hb : u'.heap[b]? = u.heap[b]?) : MapF u' b n f := by
  obtain ⟨D, ⟨es, clock, h1, h2⟩, h3⟩ := h
  exact ⟨D, ⟨es, clock, hb.trans h1, h2⟩, h3⟩
theorem MapF.below {u u' : World} {b n : Nat} {f : Int → Option Int} (h : MapF u b n f) (hb : Below u.heap.size u u') : MapF u' b n f := h.kept (hb.block b h.lt)
theorem lit_ne {a b : Int} (h : a ≠ b) : (Lit.int .i64 a) ≠ .int .i64 b := fun e => h (by injection e)
theorem mapf_put {D : DataW Unit} {f : Int → Option Int} {d x : Int} (hm : IsMap D) (hD : ∀ z, Wf z → Maps.has D (.int .i64 z) = (f z).isSome ∧ D.atKey (.int .i64 z) (.lit (.int .i64 0)) = .lit (.int .i64 ((f z).getD 0))) (z : Int) (hz : Wf z) :
    Maps.has (D.put (.int .i64 d) (.lit (.int .i64 x))) (.int .i64 z) = (Fo.upd f d (some x) z).isSome ∧ (D.put (.int .i64 d) (.lit (.int .i64 x))).atKey (.int .i64 z) (.lit (.int .i64 0)) = .lit (.int .i64 ((Fo.upd f d (some x) z).getD 0)) := by
  unfold Fo.upd
  by_cases h : z = d
  · subst h
    rw [if_pos rfl]
    exact ⟨has_put_same hm (show WideAt.IsKeyLit (.int .i64 z) from trivial) _, atKey_put_same hm (show WideAt.IsKeyLit (.int .i64 z) from trivial) _ _⟩
  · rw [if_neg h, has_put_other (lit_ne h), atKey_put_other (lit_ne h)]
    exact hD z hz
theorem mapf_del {D : DataW Unit} {f : Int → Option Int} {d : Int} (hD : ∀ z, Wf z → Maps.has D (.int .i64 z) = (f z).isSome ∧ D.atKey (.int .i64 z) (.lit (.int .i64 0)) = .lit (.int .i64 ((f z).getD 0))) (z : Int) (hz : Wf z) :
    Maps.has (D.del (.int .i64 d)) (.int .i64 z) = (Fo.upd f d none z).isSome ∧ (D.del (.int .i64 d)).atKey (.int .i64 z) (.lit (.int .i64 0)) = .lit (.int .i64 ((Fo.upd f d none z).getD 0)) := by
  unfold Fo.upd
  by_cases h : z = d
  · subst h
    rw [if_pos rfl]
    exact ⟨has_del_same, atKey_del_same _⟩
  · rw [if_neg h, has_del_other (lit_ne h), atKey_del_other (lit_ne h)]
    exact hD z hz
end Go.Proofs.YtojflhkmonicoaaGreat
namespace Go.Proofs.YtojflhkmonicoaaGreat
open Go.RowKit Go.Maps
set_option linter.unusedVariables false
set_option linter.unusedSimpArgs false
attribute [local go_sem] y_undef
theorem lit_int_inj {a b : Int} (h : (DataW.lit (.int .i64 a) : DataW Unit) = .lit (.int .i64 b)) : a = b := by injection h with h; injection h
/-- What a knowledge's maps are. -/
def Kn (u : World) (B1 B2 n : Nat) (s : Fo.S) : Prop := MapF u B1 n s.wd ∧ MapF u B2 n s.cp
theorem Kn.below {u u' : World} {B1 B2 n : Nat} {s : Fo.S} (h : Kn u B1 B2 n s) (hb : Below u.heap.size u u') : Kn u' B1 B2 n s := ⟨h.1.below hb, h.2.below hb⟩
theorem source_any (s : Fo.S) (B1 B2 n : Nat) (v : Int) (r : Int) (hr : Fo.use s v = r) (w : World) (hk : Kn w B1 B2 n s) (hv : Wf v) : Calls Tryz.prog 65 #[.agg #[.map (some B1), .map (some B2)], .int .i64 v] w fun e w' => e = .returned (.int .i64 r) ∧ Below w.heap.size w w' := by
  subst hr
  have hal : Below w.heap.size w (w.alloc (.cells #[.map (some B1), .map (some B2)] 75)) := bla (Below.refl _ _) _
  obtain ⟨D, hown, hD⟩ := (hk.below hal).2
  obtain ⟨h1, h2⟩ := hD v hv
  have HB := Lib.hid hal
  have H2 := Lib.hid h2
  have HV := Lib.hid hv
  unfold Fo.use
  clear hD h2 hk hal
  cases hc : s.cp v with
  | none =>
    rw [hc] at h1
    have HH := Lib.hid h1
    have h1' : Maps.has D (.int .i64 v) = false := h1
    clear h1 hc
    go_enter Tryz.func65, Tryz.ntmps65
    go_wp2_with (first | (at_lookup; refine wpList_lookup_own_ok_int _ rfl _ _ 73 rfl 3 3 .i64 mlaw Tryz.underlying73 Tryz.underlying3 (mzero _) B2 n _ rfl hown _ _ rfl (keyOf_int_mk Tryz.underlying3 HV.out.lit) ?_; intro c hat hwc) | go_in)
    go_ret
    exact ⟨rfl, HB.out⟩
  | some x =>
    rw [hc] at h1 H2
    have h1' : Maps.has D (.int .i64 v) = true := h1
    clear h1 hc
    go_enter Tryz.func65, Tryz.ntmps65
    go_wp2_with (first | (at_lookup; refine wpList_lookup_own_ok_int _ rfl _ _ 73 rfl 3 3 .i64 mlaw Tryz.underlying73 Tryz.underlying3 (mzero _) B2 n _ rfl hown _ _ rfl (keyOf_int_mk Tryz.underlying3 HV.out.lit) ?_; intro c hat hwc) | go_in)
    go_ret
    exact ⟨ret_int (lit_int_inj (hat.symm.trans H2.out)), HB.out⟩
def Res (s : Fo.S) (o : Gr.Op) (w : World) (e : Ending) (w' : World) : Prop := ∃ (m : Int) (k : Bool), e = .returned (.tuple #[.int .i64 m, .bool k]) ∧ k = (Fo.result s o).isSome ∧ (∀ x, Fo.result s o = some x → m = x) ∧ Below w.heap.size w w'
set_option maxHeartbeats 4000000 in
theorem result_any (s : Fo.S) (B1 B2 n : Nat) (kd d a b i : Int) (w : World) (hk : Kn w B1 B2 n s) (ha : Wf a) (hb : Wf b) :
    Calls Tryz.prog 64 #[.agg #[.map (some B1), .map (some B2)], .agg #[.int .i64 kd, .int .i64 d, .int .i64 a, .int .i64 b, .int .i64 i]] w (Res s ⟨kd, d, a, b, i⟩ w) := by
  have hal : Below w.heap.size w ((w.alloc (.cells #[.map (some B1), .map (some B2)] 75)).alloc (.cells #[.int .i64 kd, .int .i64 d, .int .i64 a, .int .i64 b, .int .i64 i] 42)) := bla (bla (Below.refl _ _) _) _
  obtain ⟨D, hown, hD⟩ := (hk.below hal).1
  obtain ⟨h1, h2⟩ := hD a ha
  obtain ⟨h3, h4⟩ := hD b hb
  have HB := Lib.hid hal
  have HA := Lib.hid h2
  have HBb := Lib.hid h4
  have HVa := Lib.hid ha
  have HVb := Lib.hid hb
  have H3 := Lib.hid h3
  clear hD h2 h4 hk hal ha hb h3
  obtain ⟨wa, hwa⟩ : ∃ x, s.wd a = x := ⟨_, rfl⟩
  obtain ⟨wb, hwb⟩ : ∃ x, s.wd b = x := ⟨_, rfl⟩
  have HWa := Lib.hid hwa
  have HWb := Lib.hid hwb
  rw [hwa] at h1
  rw [hwb] at H3
  clear hwa hwb
  by_cases k2 : kd = 2
  · subst k2
    clear H3
    cases wa with
    | none =>
      have hh : Maps.has D (.int .i64 a) = false := h1
      clear h1
      go_enter Tryz.func64, Tryz.ntmps64
      go_wp2_with (first | (at_lookup; refine wpList_lookup_own_ok_int _ rfl _ _ 73 rfl 3 3 .i64 mlaw Tryz.underlying73 Tryz.underlying3 (mzero _) B1 n _ rfl hown _ _ rfl (keyOf_int_mk Tryz.underlying3 HVa.out.lit) ?_; intro c hat hwc) | go_in)
      refine bodyPost_ret (v := .tuple #[.int .i64 c, .bool false]) (by simp [results, Tryz.results64, go_sem]) rfl ⟨c, false, rfl, by simp [Fo.result, HWa.out], (fun x hx => by simp [Fo.result, HWa.out] at hx), HB.out⟩
    | some x =>
      have hh : Maps.has D (.int .i64 a) = true := h1
      clear h1
      go_enter Tryz.func64, Tryz.ntmps64
      go_wp2_with (first | (at_lookup; refine wpList_lookup_own_ok_int _ rfl _ _ 73 rfl 3 3 .i64 mlaw Tryz.underlying73 Tryz.underlying3 (mzero _) B1 n _ rfl hown _ _ rfl (keyOf_int_mk Tryz.underlying3 HVa.out.lit) ?_; intro c hat hwc) | go_in)
      have hca : c = x := by have := lit_int_inj (hat.symm.trans HA.out); rw [HWa.out] at this; exact this
      refine bodyPost_ret (v := .tuple #[.int .i64 c, .bool true]) (by simp [results, Tryz.results64, go_sem]) rfl ⟨c, true, rfl, by simp [Fo.result, HWa.out], (fun y hy => by simp [Fo.result, HWa.out] at hy; rw [hca]; exact hy), HB.out⟩
  · have e2 : (kd == 2) = false := by simp [k2]
    by_cases k3 : kd = 3
    · subst k3
      cases wa with
      | none =>
        cases wb with
        | none =>
          have hh : Maps.has D (.int .i64 a) = false := h1
          have hh3 : Maps.has D (.int .i64 b) = false := H3.out
          clear h1 H3
          go_enter Tryz.func64, Tryz.ntmps64
          go_wp2_with (first | (at_lookup; refine wpList_lookup_own_ok_int _ rfl _ _ 73 rfl 3 3 .i64 mlaw Tryz.underlying73 Tryz.underlying3 (mzero _) B1 n _ rfl hown _ _ rfl (keyOf_int_mk Tryz.underlying3 HVa.out.lit) ?_; intro c hat hwc) | (at_lookup; refine wpList_lookup_own_ok_int _ rfl _ _ 73 rfl 3 3 .i64 mlaw Tryz.underlying73 Tryz.underlying3 (mzero _) B1 n _ rfl hown _ _ rfl (keyOf_int_mk Tryz.underlying3 HVb.out.lit) ?_; intro c2 hat2 hwc2) | (go_at_call 87; refine (do_any i _ _ _).mono ?_; rintro e w1 ⟨rfl, hb1⟩) | go_in)
          refine bodyPost_ret (v := .tuple #[.int .i64 (val i c c2), .bool false]) (by simp [results, Tryz.results64, go_sem]) rfl ⟨val i c c2, false, rfl, by simp [Fo.result, HWa.out, HWb.out], (fun z hz => by simp [Fo.result, HWa.out, HWb.out] at hz), blt HB.out hb1⟩
        | some y =>
          have hh : Maps.has D (.int .i64 a) = false := h1
          have hh3 : Maps.has D (.int .i64 b) = true := H3.out
          clear h1 H3
          go_enter Tryz.func64, Tryz.ntmps64
          go_wp2_with (first | (at_lookup; refine wpList_lookup_own_ok_int _ rfl _ _ 73 rfl 3 3 .i64 mlaw Tryz.underlying73 Tryz.underlying3 (mzero _) B1 n _ rfl hown _ _ rfl (keyOf_int_mk Tryz.underlying3 HVa.out.lit) ?_; intro c hat hwc) | (at_lookup; refine wpList_lookup_own_ok_int _ rfl _ _ 73 rfl 3 3 .i64 mlaw Tryz.underlying73 Tryz.underlying3 (mzero _) B1 n _ rfl hown _ _ rfl (keyOf_int_mk Tryz.underlying3 HVb.out.lit) ?_; intro c2 hat2 hwc2) | (go_at_call 87; refine (do_any i _ _ _).mono ?_; rintro e w1 ⟨rfl, hb1⟩) | go_in)
          refine bodyPost_ret (v := .tuple #[.int .i64 (val i c c2), .bool false]) (by simp [results, Tryz.results64, go_sem]) rfl ⟨val i c c2, false, rfl, by simp [Fo.result, HWa.out, HWb.out], (fun z hz => by simp [Fo.result, HWa.out, HWb.out] at hz), blt HB.out hb1⟩
      | some x =>
        cases wb with
        | none =>
          have hh : Maps.has D (.int .i64 a) = true := h1
          have hh3 : Maps.has D (.int .i64 b) = false := H3.out
          clear h1 H3
          go_enter Tryz.func64, Tryz.ntmps64
          go_wp2_with (first | (at_lookup; refine wpList_lookup_own_ok_int _ rfl _ _ 73 rfl 3 3 .i64 mlaw Tryz.underlying73 Tryz.underlying3 (mzero _) B1 n _ rfl hown _ _ rfl (keyOf_int_mk Tryz.underlying3 HVa.out.lit) ?_; intro c hat hwc) | (at_lookup; refine wpList_lookup_own_ok_int _ rfl _ _ 73 rfl 3 3 .i64 mlaw Tryz.underlying73 Tryz.underlying3 (mzero _) B1 n _ rfl hown _ _ rfl (keyOf_int_mk Tryz.underlying3 HVb.out.lit) ?_; intro c2 hat2 hwc2) | (go_at_call 87; refine (do_any i _ _ _).mono ?_; rintro e w1 ⟨rfl, hb1⟩) | go_in)
          refine bodyPost_ret (v := .tuple #[.int .i64 (val i c c2), .bool false]) (by simp [results, Tryz.results64, go_sem]) rfl ⟨val i c c2, false, rfl, by simp [Fo.result, HWa.out, HWb.out], (fun z hz => by simp [Fo.result, HWa.out, HWb.out] at hz), blt HB.out hb1⟩
        | some y =>
          have hh : Maps.has D (.int .i64 a) = true := h1
          have hh3 : Maps.has D (.int .i64 b) = true := H3.out
          clear h1 H3
          go_enter Tryz.func64, Tryz.ntmps64
          go_wp2_with (first | (at_lookup; refine wpList_lookup_own_ok_int _ rfl _ _ 73 rfl 3 3 .i64 mlaw Tryz.underlying73 Tryz.underlying3 (mzero _) B1 n _ rfl hown _ _ rfl (keyOf_int_mk Tryz.underlying3 HVa.out.lit) ?_; intro c hat hwc) | (at_lookup; refine wpList_lookup_own_ok_int _ rfl _ _ 73 rfl 3 3 .i64 mlaw Tryz.underlying73 Tryz.underlying3 (mzero _) B1 n _ rfl hown _ _ rfl (keyOf_int_mk Tryz.underlying3 HVb.out.lit) ?_; intro c2 hat2 hwc2) | (go_at_call 87; refine (do_any i _ _ _).mono ?_; rintro e w1 ⟨rfl, hb1⟩) | go_in)
          have hca : c = x := by have := lit_int_inj (hat.symm.trans HA.out); rw [HWa.out] at this; exact this
          have hcb : c2 = y := by have := lit_int_inj (hat2.symm.trans HBb.out); rw [HWb.out] at this; exact this
          refine bodyPost_ret (v := .tuple #[.int .i64 (val i c c2), .bool true]) (by simp [results, Tryz.results64, go_sem]) rfl ⟨val i c c2, true, rfl, by simp [Fo.result, HWa.out, HWb.out], (fun z hz => by simp [Fo.result, HWa.out, HWb.out] at hz; rw [hca, hcb]; exact hz), blt HB.out hb1⟩
    · have e3 : (kd == 3) = false := by simp [k3]
      have HR := Lib.hid (show Fo.result s ⟨kd, d, a, b, i⟩ = none by unfold Fo.result; simp [k2, k3])
      clear k2 k3 H3
      cases wa with
      | none =>
        have hh : Maps.has D (.int .i64 a) = false := h1
        clear h1
        go_enter Tryz.func64, Tryz.ntmps64
        go_wp2_with (first | (at_lookup; refine wpList_lookup_own_ok_int _ rfl _ _ 73 rfl 3 3 .i64 mlaw Tryz.underlying73 Tryz.underlying3 (mzero _) B1 n _ rfl hown _ _ rfl (keyOf_int_mk Tryz.underlying3 HVa.out.lit) ?_; intro c hat hwc) | go_in)
        refine bodyPost_ret (v := .tuple #[.int .i64 0, .bool false]) (by simp [results, Tryz.results64, go_sem]) rfl ⟨0, false, rfl, by rw [HR.out]; rfl, (fun z hz => by rw [HR.out] at hz; cases hz), HB.out⟩
      | some x =>
        have hh : Maps.has D (.int .i64 a) = true := h1
        clear h1
        go_enter Tryz.func64, Tryz.ntmps64
        go_wp2_with (first | (at_lookup; refine wpList_lookup_own_ok_int _ rfl _ _ 73 rfl 3 3 .i64 mlaw Tryz.underlying73 Tryz.underlying3 (mzero _) B1 n _ rfl hown _ _ rfl (keyOf_int_mk Tryz.underlying3 HVa.out.lit) ?_; intro c hat hwc) | go_in)
        refine bodyPost_ret (v := .tuple #[.int .i64 0, .bool false]) (by simp [results, Tryz.results64, go_sem]) rfl ⟨0, false, rfl, by rw [HR.out]; rfl, (fun z hz => by rw [HR.out] at hz; cases hz), HB.out⟩
end Go.Proofs.YtojflhkmonicoaaGreat
