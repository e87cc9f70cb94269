/- WordRing answers true for every input: words form a ring under Add, Sub and Mul, Xor undoes itself, and only the words of arguments matter. No condition. -/
import Derived.Test.YtdladbekkmnnhaaAid
import Derived.WalkKit
import Derived.ProofKit
import Derived.OpenShut
namespace Go.Proofs.Ytdladbekkmnnhaa.wordRing
open Go.ChangeShapes Go.WideShapes Go.ChangeAt Go.RowKit
set_option linter.unusedVariables false      -- a walk need not use every 'w<i>' (that an integer argument fits its kind)

theorem own : ownKnob Try.prog.godebug = none := by kernel_rfl

theorem bounds32 {a : Int} (h : (Lit.int .i32 a).wf = true) : -2147483648 ≤ a ∧ a ≤ 2147483647 := by
  simpa [Lit.wf, IntKind.min, IntKind.max, IntKind.signed, IntKind.bits] using h
theorem yes {a b : Int} (h : a = b) : (a == b) = true := beq_iff_eq.2 h
theorem f1 (a b : Int) : val 1 a b = val 1 b a := val_ext (by rw [bv_add, bv_add, BitVec.add_comm])
theorem f2 (a b c : Int) : val 1 a (val 1 b c) = val 1 (val 1 a b) c := val_ext (by rw [bv_add, bv_add, bv_add, bv_add, BitVec.add_assoc])
theorem f3 (a b c : Int) : val 3 a (val 1 b c) = val 1 (val 3 a b) (val 3 a c) := val_ext (by rw [bv_mul, bv_add, bv_add, bv_mul, bv_mul, BitVec.mul_add])
theorem f4 (a b : Int) (h : -2147483648 ≤ a ∧ a ≤ 2147483647) : val 2 (val 1 a b) b = a := val_eq_of (by rw [bv_sub, bv_add, BitVec.add_sub_cancel]) h
theorem f5 (a b k m : Int) : val 3 a b = val 3 (wrap64 (a + k * 4294967296)) (wrap64 (b + m * 4294967296)) :=
  val_congr (by rw [wrap32_wrap64]; unfold wrap32; omega) (by rw [wrap32_wrap64]; unfold wrap32; omega)
theorem f6 (a b : Int) (h : -2147483648 ≤ a ∧ a ≤ 2147483647) : val 8 (val 8 a b) b = a := val_eq_of (by rw [bv_xor, bv_xor, BitVec.xor_assoc, BitVec.xor_self, BitVec.xor_zero]) h
set_option maxHeartbeats 400000 in
theorem walk (a0 : Int) (a1 : Int) (a2 : Int) (a3 : Int) (a4 : Int) (w0 : (Lit.int .i32 a0).wf = true) (w1 : (Lit.int .i32 a1).wf = true) (w2 : (Lit.int .i32 a2).wf = true) (w3 : (Lit.int .i32 a3).wf = true) (w4 : (Lit.int .i32 a4).wf = true) (w : World) :
    Calls Try.prog 5 #[.int .i32 a0, .int .i32 a1, .int .i32 a2, .int .i32 a3, .int .i32 a4] w fun e w' => e = .returned (.bool true) ∧ Grown w w' := by
  have hG := Grown.refl w
  obtain ⟨l0, u0⟩ := bounds32 w0
  obtain ⟨l1, u1⟩ := bounds32 w1
  obtain ⟨l2, u2⟩ := bounds32 w2
  obtain ⟨l3, u3⟩ := bounds32 w3
  obtain ⟨l4, u4⟩ := bounds32 w4
  clear w0 w1 w2 w3 w4
  have g1 := yes (f1 a0 a1)
  have g2 := yes (f2 a0 a1 a2)
  have g3 := yes (f3 a0 a1 a2)
  have g4 := yes (f4 a0 a1 ⟨l0, u0⟩)
  have g5 := yes (f5 a0 a1 a3 a4)
  have g6 := yes (f6 a0 a1 ⟨l0, u0⟩)
  go_enter Try.func5, Try.ntmps5
  go_wp2_with (first | (go_at_call 18; refine (c18 _ _ _ _).mono ?_; rintro e w' ⟨rfl, hg⟩; replace hG := grown_trans hG hg; clear hg) | (go_at_call 17; refine (c17 _).mono ?_; rintro e w' ⟨rfl, hg⟩; replace hG := grown_trans hG hg; clear hg))
  go_ret
  exact ⟨rfl, hG⟩

/-! ### THE ROW's STEP: WRITTEN OUT: LEAVE IT -/
set_option maxRecDepth 100000 in
theorem lifted (os : Os) (started : os.Started) (H : Type) (enc : TypeId × Value → H) :
    ReturnsInHanded {} Try.checked os 5 .any (Rows.wordRingSpec.pre6 enc Try.prog Try.f5 Rows.wordRingRow.domain false) (Rows.wordRingSpec.post enc Try.prog Try.f5 false true false false) := by
  refine returnsInHanded_of_change (C := Try.checked) own started (by kernel_rfl) Try.func5
    (ChangeSpec.witness6 (enc := enc) (C := Try.checked) false ⟨#[], #[.int .i32 0, .int .i32 0, .int .i32 0, .int .i32 0, .int .i32 0], []⟩ 8 (by kernel_rfl) (by kernel_rfl) (by kernel_rfl) (by kernel_rfl)) ?_
  intro W base args ds gs before hval0 hW hcnd _
  have hval : ∀ (j : Nat) t v, Try.f5.params[j]? = some t → args[j]? = some v → Value.okWide Try.prog W .any base t v := hval0
  have hW' := hW
  obtain ⟨p, q, hA0, hV, rfl, hfz, hnd⟩ := hW
  have hA : DataW.TrodAll enc Try.prog W 0 (fun _ => true) true Try.f5.params.toList args.toList ds p := hA0
  rw [Try.params5] at hA hval
  obtain ⟨v0, vs0, d0, ds0, p0, q0, hargs, rfl, rfl, h0, r0⟩ := trodAll_cons hA
  obtain ⟨v1, vs1, d1, ds1, p1, q1, rfl, rfl, rfl, h1, r1⟩ := trodAll_cons r0
  obtain ⟨v2, vs2, d2, ds2, p2, q2, rfl, rfl, rfl, h2, r2⟩ := trodAll_cons r1
  obtain ⟨v3, vs3, d3, ds3, p3, q3, rfl, rfl, rfl, h3, r3⟩ := trodAll_cons r2
  obtain ⟨v4, vs4, d4, ds4, p4, q4, rfl, rfl, rfl, h4, r4⟩ := trodAll_cons r3
  obtain ⟨rfl, rfl, rfl⟩ := trodAll_nil r4
  obtain rfl : args = #[v0, v1, v2, v3, v4] := by cases args; simp_all
  obtain ⟨rfl, rfl⟩ := trodVars_none hV
  obtain ⟨a0, rfl, rfl, rfl, w0⟩ := open_int Try.underlying21 (hval 0 21 v0 rfl rfl) h0
  obtain ⟨a1, rfl, rfl, rfl, w1⟩ := open_int Try.underlying21 (hval 1 21 v1 rfl rfl) h1
  obtain ⟨a2, rfl, rfl, rfl, w2⟩ := open_int Try.underlying21 (hval 2 21 v2 rfl rfl) h2
  obtain ⟨a3, rfl, rfl, rfl, w3⟩ := open_int Try.underlying21 (hval 3 21 v3 rfl rfl) h3
  obtain ⟨a4, rfl, rfl, rfl, w4⟩ := open_int Try.underlying21 (hval 4 21 v4 rfl rfl) h4
  clear hA0 hval0
  simp only [List.append_nil] at hW'
  refine (walk a0 a1 a2 a3 a4 w0 w1 w2 w3 w4 W).mono fun e W' ⟨he, hg⟩ => ?_
  subst he
  exact ⟨_, rfl, post_of_same (pa := []) (pv := []) hW' (fun _ _ _ => (trodAll_cons_mk (shut_bool Try.underlying4 _) trodAll_mk0)) (fun sp _ => (trodAll_cons_mk (shut_int Try.underlying21 w0) (trodAll_cons_mk (shut_int Try.underlying21 w1) (trodAll_cons_mk (shut_int Try.underlying21 w2) (trodAll_cons_mk (shut_int Try.underlying21 w3) (trodAll_cons_mk (shut_int Try.underlying21 w4) trodAll_mk0)))))) (fun _ _ => rfl) rfl
    (hg.frame _) hg.2.1 (ok_one (by kernel_rfl) rfl (okWide_bool_mk Try.underlying4 _))⟩

theorem over : Rows.wordRingRow.holds Try.pinned (OpenSpec.ofChange Rows.wordRingSpec) :=
  OpenClaim.holds_of_wide 5 Try.f5 rfl rfl rfl rfl rfl rfl rfl ⟨rfl, rfl, rfl, rfl, rfl⟩ rfl rfl rfl rfl rfl (by kernel_rfl) Try.func5 (by kernel_rfl)
    (of_decide_eq_true (by kernel_rfl)) (by unfold Func.isWrapper; first | (rw [if_pos (by decide +kernel)]; kernel_rfl) | (rw [if_neg (by decide +kernel)]; exact ⟨rfl, rfl⟩))
    (fun os started H enc _ => lifted os started H enc)

/-- ████ THE STATEMENT ████ -/
theorem proved : Rows.WordRingSaid :=
  over
end Go.Proofs.Ytdladbekkmnnhaa.wordRing
