/- The code of layer 14: what is known of a variable, and what an operation becomes. No condition. -/
import Derived.Test.YtojnhdkclabkgaaFoMap
import Derived.Test.YtojnhdkclabkgaaWdCode
namespace Go.Proofs.Ytojnhdkclabkgaa
open Go.RowKit Go.Maps
set_option linter.unusedVariables false
set_option linter.unusedSimpArgs false
attribute [local go_sem] y_undef
theorem lit_int_inj {a b : Int} (h : (DataW.lit (.int .i64 a) : DataW Unit) = .lit (.int .i64 b)) : a = b := by injection h with h; injection h
/-- What a knowledge's maps are. -/
def Kn (u : World) (B1 B2 n : Nat) (s : Fo.S) : Prop := MapF u B1 n s.wd ∧ MapF u B2 n s.cp
theorem Kn.below {u u' : World} {B1 B2 n : Nat} {s : Fo.S} (h : Kn u B1 B2 n s) (hb : Below u.heap.size u u') : Kn u' B1 B2 n s := ⟨h.1.below hb, h.2.below hb⟩
theorem source_any (s : Fo.S) (B1 B2 n : Nat) (v : Int) (r : Int) (hr : Fo.use s v = r) (w : World) (hk : Kn w B1 B2 n s) (hv : Wf v) : Calls Try.prog 89 #[.agg #[.map (some B1), .map (some B2)], .int .i64 v] w fun e w' => e = .returned (.int .i64 r) ∧ Below w.heap.size w w' := by
  subst hr
  have hal : Below w.heap.size w (w.alloc (.cells #[.map (some B1), .map (some B2)] 77)) := bla (Below.refl _ _) _
  obtain ⟨D, hown, hD⟩ := (hk.below hal).2
  obtain ⟨h1, h2⟩ := hD v hv
  have HB := Lib.hid hal
  have H2 := Lib.hid h2
  have HV := Lib.hid hv
  unfold Fo.use
  clear hD h2 hk hal
  cases hc : s.cp v with
  | none =>
    rw [hc] at h1
    have HH := Lib.hid h1
    have h1' : Maps.has D (.int .i64 v) = false := h1
    clear h1 hc
    go_enter Try.func89, Try.ntmps89
    go_wp2_with (first | (at_lookup; refine wpList_lookup_own_ok_int _ rfl _ _ 75 rfl 3 3 .i64 mlaw Try.underlying75 Try.underlying3 (mzero _) B2 n _ rfl hown _ _ rfl (keyOf_int_mk Try.underlying3 HV.out.lit) ?_; intro c hat hwc) | go_in)
    go_ret
    exact ⟨rfl, HB.out⟩
  | some x =>
    rw [hc] at h1 H2
    have h1' : Maps.has D (.int .i64 v) = true := h1
    clear h1 hc
    go_enter Try.func89, Try.ntmps89
    go_wp2_with (first | (at_lookup; refine wpList_lookup_own_ok_int _ rfl _ _ 75 rfl 3 3 .i64 mlaw Try.underlying75 Try.underlying3 (mzero _) B2 n _ rfl hown _ _ rfl (keyOf_int_mk Try.underlying3 HV.out.lit) ?_; intro c hat hwc) | go_in)
    go_ret
    exact ⟨ret_int (lit_int_inj (hat.symm.trans H2.out)), HB.out⟩
def Res (s : Fo.S) (o : Gr.Op) (w : World) (e : Ending) (w' : World) : Prop := ∃ (m : Int) (k : Bool), e = .returned (.tuple #[.int .i64 m, .bool k]) ∧ k = (Fo.result s o).isSome ∧ (∀ x, Fo.result s o = some x → m = x) ∧ Below w.heap.size w w'
set_option maxHeartbeats 4000000 in
theorem result_any (s : Fo.S) (B1 B2 n : Nat) (kd d a b i : Int) (w : World) (hk : Kn w B1 B2 n s) (ha : Wf a) (hb : Wf b) :
    Calls Try.prog 88 #[.agg #[.map (some B1), .map (some B2)], .agg #[.int .i64 kd, .int .i64 d, .int .i64 a, .int .i64 b, .int .i64 i]] w (Res s ⟨kd, d, a, b, i⟩ w) := by
  have hal : Below w.heap.size w ((w.alloc (.cells #[.map (some B1), .map (some B2)] 77)).alloc (.cells #[.int .i64 kd, .int .i64 d, .int .i64 a, .int .i64 b, .int .i64 i] 27)) := bla (bla (Below.refl _ _) _) _
  obtain ⟨D, hown, hD⟩ := (hk.below hal).1
  obtain ⟨h1, h2⟩ := hD a ha
  obtain ⟨h3, h4⟩ := hD b hb
  have HB := Lib.hid hal
  have HA := Lib.hid h2
  have HBb := Lib.hid h4
  have HVa := Lib.hid ha
  have HVb := Lib.hid hb
  have H3 := Lib.hid h3
  clear hD h2 h4 hk hal ha hb h3
  obtain ⟨wa, hwa⟩ : ∃ x, s.wd a = x := ⟨_, rfl⟩
  obtain ⟨wb, hwb⟩ : ∃ x, s.wd b = x := ⟨_, rfl⟩
  have HWa := Lib.hid hwa
  have HWb := Lib.hid hwb
  rw [hwa] at h1
  rw [hwb] at H3
  clear hwa hwb
  by_cases k2 : kd = 2
  · subst k2
    clear H3
    cases wa with
    | none =>
      have hh : Maps.has D (.int .i64 a) = false := h1
      clear h1
      go_enter Try.func88, Try.ntmps88
      go_wp2_with (first | (at_lookup; refine wpList_lookup_own_ok_int _ rfl _ _ 75 rfl 3 3 .i64 mlaw Try.underlying75 Try.underlying3 (mzero _) B1 n _ rfl hown _ _ rfl (keyOf_int_mk Try.underlying3 HVa.out.lit) ?_; intro c hat hwc) | go_in)
      refine bodyPost_ret (v := .tuple #[.int .i64 c, .bool false]) (by simp [results, Try.results88, go_sem]) rfl ⟨c, false, rfl, by simp [Fo.result, HWa.out], (fun x hx => by simp [Fo.result, HWa.out] at hx), HB.out⟩
    | some x =>
      have hh : Maps.has D (.int .i64 a) = true := h1
      clear h1
      go_enter Try.func88, Try.ntmps88
      go_wp2_with (first | (at_lookup; refine wpList_lookup_own_ok_int _ rfl _ _ 75 rfl 3 3 .i64 mlaw Try.underlying75 Try.underlying3 (mzero _) B1 n _ rfl hown _ _ rfl (keyOf_int_mk Try.underlying3 HVa.out.lit) ?_; intro c hat hwc) | go_in)
      have hca : c = x := by have := lit_int_inj (hat.symm.trans HA.out); rw [HWa.out] at this; exact this
      refine bodyPost_ret (v := .tuple #[.int .i64 c, .bool true]) (by simp [results, Try.results88, go_sem]) rfl ⟨c, true, rfl, by simp [Fo.result, HWa.out], (fun y hy => by simp [Fo.result, HWa.out] at hy; rw [hca]; exact hy), HB.out⟩
  · have e2 : (kd == 2) = false := by simp [k2]
    by_cases k3 : kd = 3
    · subst k3
      cases wa with
      | none =>
        cases wb with
        | none =>
          have hh : Maps.has D (.int .i64 a) = false := h1
          have hh3 : Maps.has D (.int .i64 b) = false := H3.out
          clear h1 H3
          go_enter Try.func88, Try.ntmps88
          go_wp2_with (first | (at_lookup; refine wpList_lookup_own_ok_int _ rfl _ _ 75 rfl 3 3 .i64 mlaw Try.underlying75 Try.underlying3 (mzero _) B1 n _ rfl hown _ _ rfl (keyOf_int_mk Try.underlying3 HVa.out.lit) ?_; intro c hat hwc) | (at_lookup; refine wpList_lookup_own_ok_int _ rfl _ _ 75 rfl 3 3 .i64 mlaw Try.underlying75 Try.underlying3 (mzero _) B1 n _ rfl hown _ _ rfl (keyOf_int_mk Try.underlying3 HVb.out.lit) ?_; intro c2 hat2 hwc2) | (go_at_call 127; refine (do_any i _ _ _).mono ?_; rintro e w1 ⟨rfl, hb1⟩) | go_in)
          refine bodyPost_ret (v := .tuple #[.int .i64 (val i c c2), .bool false]) (by simp [results, Try.results88, go_sem]) rfl ⟨val i c c2, false, rfl, by simp [Fo.result, HWa.out, HWb.out], (fun z hz => by simp [Fo.result, HWa.out, HWb.out] at hz), blt HB.out hb1⟩
        | some y =>
          have hh : Maps.has D (.int .i64 a) = false := h1
          have hh3 : Maps.has D (.int .i64 b) = true := H3.out
          clear h1 H3
          go_enter Try.func88, Try.ntmps88
          go_wp2_with (first | (at_lookup; refine wpList_lookup_own_ok_int _ rfl _ _ 75 rfl 3 3 .i64 mlaw Try.underlying75 Try.underlying3 (mzero _) B1 n _ rfl hown _ _ rfl (keyOf_int_mk Try.underlying3 HVa.out.lit) ?_; intro c hat hwc) | (at_lookup; refine wpList_lookup_own_ok_int _ rfl _ _ 75 rfl 3 3 .i64 mlaw Try.underlying75 Try.underlying3 (mzero _) B1 n _ rfl hown _ _ rfl (keyOf_int_mk Try.underlying3 HVb.out.lit) ?_; intro c2 hat2 hwc2) | (go_at_call 127; refine (do_any i _ _ _).mono ?_; rintro e w1 ⟨rfl, hb1⟩) | go_in)
          refine bodyPost_ret (v := .tuple #[.int .i64 (val i c c2), .bool false]) (by simp [results, Try.results88, go_sem]) rfl ⟨val i c c2, false, rfl, by simp [Fo.result, HWa.out, HWb.out], (fun z hz => by simp [Fo.result, HWa.out, HWb.out] at hz), blt HB.out hb1⟩
      | some x =>
        cases wb with
        | none =>
          have hh : Maps.has D (.int .i64 a) = true := h1
          have hh3 : Maps.has D (.int .i64 b) = false := H3.out
          clear h1 H3
          go_enter Try.func88, Try.ntmps88
          go_wp2_with (first | (at_lookup; refine wpList_lookup_own_ok_int _ rfl _ _ 75 rfl 3 3 .i64 mlaw Try.underlying75 Try.underlying3 (mzero _) B1 n _ rfl hown _ _ rfl (keyOf_int_mk Try.underlying3 HVa.out.lit) ?_; intro c hat hwc) | (at_lookup; refine wpList_lookup_own_ok_int _ rfl _ _ 75 rfl 3 3 .i64 mlaw Try.underlying75 Try.underlying3 (mzero _) B1 n _ rfl hown _ _ rfl (keyOf_int_mk Try.underlying3 HVb.out.lit) ?_; intro c2 hat2 hwc2) | (go_at_call 127; refine (do_any i _ _ _).mono ?_; rintro e w1 ⟨rfl, hb1⟩) | go_in)
          refine bodyPost_ret (v := .tuple #[.int .i64 (val i c c2), .bool false]) (by simp [results, Try.results88, go_sem]) rfl ⟨val i c c2, false, rfl, by simp [Fo.result, HWa.out, HWb.out], (fun z hz => by simp [Fo.result, HWa.out, HWb.out] at hz), blt HB.out hb1⟩
        | some y =>
          have hh : Maps.has D (.int .i64 a) = true := h1
          have hh3 : Maps.has D (.int .i64 b) = true := H3.out
          clear h1 H3
          go_enter Try.func88, Try.ntmps88
          go_wp2_with (first | (at_lookup; refine wpList_lookup_own_ok_int _ rfl _ _ 75 rfl 3 3 .i64 mlaw Try.underlying75 Try.underlying3 (mzero _) B1 n _ rfl hown _ _ rfl (keyOf_int_mk Try.underlying3 HVa.out.lit) ?_; intro c hat hwc) | (at_lookup; refine wpList_lookup_own_ok_int _ rfl _ _ 75 rfl 3 3 .i64 mlaw Try.underlying75 Try.underlying3 (mzero _) B1 n _ rfl hown _ _ rfl (keyOf_int_mk Try.underlying3 HVb.out.lit) ?_; intro c2 hat2 hwc2) | (go_at_call 127; refine (do_any i _ _ _).mono ?_; rintro e w1 ⟨rfl, hb1⟩) | go_in)
          have hca : c = x := by have := lit_int_inj (hat.symm.trans HA.out); rw [HWa.out] at this; exact this
          have hcb : c2 = y := by have := lit_int_inj (hat2.symm.trans HBb.out); rw [HWb.out] at this; exact this
          refine bodyPost_ret (v := .tuple #[.int .i64 (val i c c2), .bool true]) (by simp [results, Try.results88, go_sem]) rfl ⟨val i c c2, true, rfl, by simp [Fo.result, HWa.out, HWb.out], (fun z hz => by simp [Fo.result, HWa.out, HWb.out] at hz; rw [hca, hcb]; exact hz), blt HB.out hb1⟩
    · have e3 : (kd == 3) = false := by simp [k3]
      have HR := Lib.hid (show Fo.result s ⟨kd, d, a, b, i⟩ = none by unfold Fo.result; simp [k2, k3])
      clear k2 k3 H3
      cases wa with
      | none =>
        have hh : Maps.has D (.int .i64 a) = false := h1
        clear h1
        go_enter Try.func88, Try.ntmps88
        go_wp2_with (first | (at_lookup; refine wpList_lookup_own_ok_int _ rfl _ _ 75 rfl 3 3 .i64 mlaw Try.underlying75 Try.underlying3 (mzero _) B1 n _ rfl hown _ _ rfl (keyOf_int_mk Try.underlying3 HVa.out.lit) ?_; intro c hat hwc) | go_in)
        refine bodyPost_ret (v := .tuple #[.int .i64 0, .bool false]) (by simp [results, Try.results88, go_sem]) rfl ⟨0, false, rfl, by rw [HR.out]; rfl, (fun z hz => by rw [HR.out] at hz; cases hz), HB.out⟩
      | some x =>
        have hh : Maps.has D (.int .i64 a) = true := h1
        clear h1
        go_enter Try.func88, Try.ntmps88
        go_wp2_with (first | (at_lookup; refine wpList_lookup_own_ok_int _ rfl _ _ 75 rfl 3 3 .i64 mlaw Try.underlying75 Try.underlying3 (mzero _) B1 n _ rfl hown _ _ rfl (keyOf_int_mk Try.underlying3 HVa.out.lit) ?_; intro c hat hwc) | go_in)
        refine bodyPost_ret (v := .tuple #[.int .i64 0, .bool false]) (by simp [results, Try.results88, go_sem]) rfl ⟨0, false, rfl, by rw [HR.out]; rfl, (fun z hz => by rw [HR.out] at hz; cases hz), HB.out⟩
end Go.Proofs.Ytojnhdkclabkgaa
