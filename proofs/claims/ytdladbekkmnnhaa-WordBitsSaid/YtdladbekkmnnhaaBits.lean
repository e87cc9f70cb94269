/- WordBits answers true for every input: the laws of the operators of bits hold. No condition. -/
import Derived.Test.YtdladbekkmnnhaaAid
import Derived.WalkKit
import Derived.ProofKit
import Derived.OpenShut
namespace Go.Proofs.Ytdladbekkmnnhaa.wordBits
open Go.ChangeShapes Go.WideShapes Go.ChangeAt Go.RowKit
set_option linter.unusedVariables false      -- a walk need not use every 'w<i>' (that an integer argument fits its kind)

theorem own : ownKnob Try.prog.godebug = none := by kernel_rfl

theorem bounds32 {a : Int} (h : (Lit.int .i32 a).wf = true) : -2147483648 ≤ a ∧ a ≤ 2147483647 := by
  simpa [Lit.wf, IntKind.min, IntKind.max, IntKind.signed, IntKind.bits] using h
theorem yes {a b : Int} (h : a = b) : (a == b) = true := beq_iff_eq.2 h
theorem no {a b : Int} (h : a = b) : (a != b) = false := by simp [h]
theorem or_and (x y : BitVec 32) : (x &&& y) + (x ^^^ y) = x ||| y := by
  rw [BitVec.add_eq_or_of_and_eq_zero]
  · ext i hi; simp; cases x[i] <;> cases y[i] <;> simp
  · ext i hi; simp; cases x[i] <;> cases y[i] <;> simp
theorem sum_or_and (x y : BitVec 32) : (x ||| y) + (x &&& y) = x + y := by
  have h1 : x ||| y = x + (y &&& ~~~x) := by
    rw [BitVec.add_eq_or_of_and_eq_zero]
    · ext i hi; simp; cases x[i] <;> cases y[i] <;> simp
    · ext i hi; simp; cases x[i] <;> cases y[i] <;> simp
  have h2 : y = (y &&& ~~~x) + (x &&& y) := by
    rw [BitVec.add_eq_or_of_and_eq_zero]
    · ext i hi; simp; cases x[i] <;> cases y[i] <;> simp
    · ext i hi; simp; cases x[i] <;> cases y[i] <;> simp
  rw [h1, BitVec.add_assoc, ← h2]
theorem de_morgan {n : Nat} (x y : BitVec n) : (x &&& y) ^^^ BitVec.allOnes n = (x ^^^ BitVec.allOnes n) ||| (y ^^^ BitVec.allOnes n) := by
  ext i hi; simp
theorem g1 (a b : Int) : val 8 (val 6 a b) (-1) = val 7 (val 8 a (-1)) (val 8 b (-1)) := val_ext (by
  rw [bv_xor, bv_and, bv_or, bv_xor, bv_xor]
  have e : BitVec.ofInt 32 (-1) = BitVec.allOnes 32 := by decide
  rw [e]; exact de_morgan _ _)
theorem g2 (a b : Int) (h : -2147483648 ≤ a ∧ a ≤ 2147483647) : val 7 a (val 6 a b) = a := val_eq_of (by
  rw [bv_or, bv_and]
  generalize BitVec.ofInt 32 a = x; generalize BitVec.ofInt 32 b = y
  ext i hi; simp; cases x[i] <;> cases y[i] <;> simp) h
theorem g3 (a b c : Int) : val 6 a (val 7 b c) = val 7 (val 6 a b) (val 6 a c) := val_ext (by
  rw [bv_and, bv_or, bv_or, bv_and, bv_and]
  generalize BitVec.ofInt 32 a = x; generalize BitVec.ofInt 32 b = y; generalize BitVec.ofInt 32 c = z
  ext i hi; simp; cases x[i] <;> cases y[i] <;> cases z[i] <;> simp)
theorem g4 (a b : Int) : val 1 (val 6 a b) (val 8 a b) = val 7 a b := val_ext (by
  rw [bv_add, bv_and, bv_xor, bv_or, or_and])
theorem g5 (a b : Int) : val 1 (val 7 a b) (val 6 a b) = val 1 a b := val_ext (by
  rw [bv_add, bv_or, bv_and, bv_add, sum_or_and])
set_option maxHeartbeats 400000 in
theorem walk (a0 : Int) (a1 : Int) (a2 : Int) (w0 : (Lit.int .i32 a0).wf = true) (w1 : (Lit.int .i32 a1).wf = true) (w2 : (Lit.int .i32 a2).wf = true) (w : World) :
    Calls Try.prog 8 #[.int .i32 a0, .int .i32 a1, .int .i32 a2] w fun e w' => e = .returned (.bool true) ∧ Grown w w' := by
  have hG := Grown.refl w
  obtain ⟨l0, u0⟩ := bounds32 w0
  obtain ⟨l1, u1⟩ := bounds32 w1
  obtain ⟨l2, u2⟩ := bounds32 w2
  clear w0 w1 w2
  have g1 := no (g1 a0 a1)
  have g2 := no (g2 a0 a1 ⟨l0, u0⟩)
  have g3 := no (g3 a0 a1 a2)
  have g4 := yes (g4 a0 a1)
  have g5 := yes (g5 a0 a1)
  go_enter Try.func8, Try.ntmps8
  go_wp2_with (first | (go_at_call 18; refine (c18 _ _ _ _).mono ?_; rintro e w' ⟨rfl, hg⟩; replace hG := grown_trans hG hg; clear hg) | (go_at_call 17; refine (c17 _).mono ?_; rintro e w' ⟨rfl, hg⟩; replace hG := grown_trans hG hg; clear hg))
  go_ret
  exact ⟨rfl, hG⟩

/-! ### THE ROW's STEP: WRITTEN OUT: LEAVE IT -/
set_option maxRecDepth 100000 in
theorem lifted (os : Os) (started : os.Started) (H : Type) (enc : TypeId × Value → H) :
    ReturnsInHanded {} Try.checked os 8 .any (Rows.wordBitsSpec.pre6 enc Try.prog Try.f8 Rows.wordBitsRow.domain false) (Rows.wordBitsSpec.post enc Try.prog Try.f8 false true false false) := by
  refine returnsInHanded_of_change (C := Try.checked) own started (by kernel_rfl) Try.func8
    (ChangeSpec.witness6 (enc := enc) (C := Try.checked) false ⟨#[], #[.int .i32 0, .int .i32 0, .int .i32 0], []⟩ 8 (by kernel_rfl) (by kernel_rfl) (by kernel_rfl) (by kernel_rfl)) ?_
  intro W base args ds gs before hval0 hW hcnd _
  have hval : ∀ (j : Nat) t v, Try.f8.params[j]? = some t → args[j]? = some v → Value.okWide Try.prog W .any base t v := hval0
  have hW' := hW
  obtain ⟨p, q, hA0, hV, rfl, hfz, hnd⟩ := hW
  have hA : DataW.TrodAll enc Try.prog W 0 (fun _ => true) true Try.f8.params.toList args.toList ds p := hA0
  rw [Try.params8] at hA hval
  obtain ⟨v0, vs0, d0, ds0, p0, q0, hargs, rfl, rfl, h0, r0⟩ := trodAll_cons hA
  obtain ⟨v1, vs1, d1, ds1, p1, q1, rfl, rfl, rfl, h1, r1⟩ := trodAll_cons r0
  obtain ⟨v2, vs2, d2, ds2, p2, q2, rfl, rfl, rfl, h2, r2⟩ := trodAll_cons r1
  obtain ⟨rfl, rfl, rfl⟩ := trodAll_nil r2
  obtain rfl : args = #[v0, v1, v2] := by cases args; simp_all
  obtain ⟨rfl, rfl⟩ := trodVars_none hV
  obtain ⟨a0, rfl, rfl, rfl, w0⟩ := open_int Try.underlying21 (hval 0 21 v0 rfl rfl) h0
  obtain ⟨a1, rfl, rfl, rfl, w1⟩ := open_int Try.underlying21 (hval 1 21 v1 rfl rfl) h1
  obtain ⟨a2, rfl, rfl, rfl, w2⟩ := open_int Try.underlying21 (hval 2 21 v2 rfl rfl) h2
  clear hA0 hval0
  simp only [List.append_nil] at hW'
  refine (walk a0 a1 a2 w0 w1 w2 W).mono fun e W' ⟨he, hg⟩ => ?_
  subst he
  exact ⟨_, rfl, post_of_same (pa := []) (pv := []) hW' (fun _ _ _ => (trodAll_cons_mk (shut_bool Try.underlying4 _) trodAll_mk0)) (fun sp _ => (trodAll_cons_mk (shut_int Try.underlying21 w0) (trodAll_cons_mk (shut_int Try.underlying21 w1) (trodAll_cons_mk (shut_int Try.underlying21 w2) trodAll_mk0)))) (fun _ _ => rfl) rfl
    (hg.frame _) hg.2.1 (ok_one (by kernel_rfl) rfl (okWide_bool_mk Try.underlying4 _))⟩

theorem over : Rows.wordBitsRow.holds Try.pinned (OpenSpec.ofChange Rows.wordBitsSpec) :=
  OpenClaim.holds_of_wide 8 Try.f8 rfl rfl rfl rfl rfl rfl rfl ⟨rfl, rfl, rfl, rfl, rfl⟩ rfl rfl rfl rfl rfl (by kernel_rfl) Try.func8 (by kernel_rfl)
    (of_decide_eq_true (by kernel_rfl)) (by unfold Func.isWrapper; first | (rw [if_pos (by decide +kernel)]; kernel_rfl) | (rw [if_neg (by decide +kernel)]; exact ⟨rfl, rfl⟩))
    (fun os started H enc _ => lifted os started H enc)

/-- ████ THE STATEMENT ████ -/
theorem proved : Rows.WordBitsSaid :=
  over
end Go.Proofs.Ytdladbekkmnnhaa.wordBits
