/- Do of package word answers what the function at the operator's number answers for the two words, made a word. Condition: that function only computes. -/
import Derived.Test.YtdladbekkmnnhaaRows
import Derived.Test.YtdladbekkmnnhaaPlain
import Derived.WalkKit
import Derived.ProofKit
import Derived.OpenShut
import Derived.Deep.RegionHeld3
import Derived.Laws.EntriesVeiled
import Derived.Lib.Hide
namespace Go.Proofs.Ytdladbekkmnnhaa
open Go.RowKit
set_option linter.unusedVariables false
def fns : Value := .agg #[Value.nilFunc, Value.func (Fn.func 21) #[] #[], Value.func (Fn.func 22) #[] #[],
              Value.func (Fn.func 23) #[] #[], Value.func (Fn.func 24) #[] #[], Value.func (Fn.func 25) #[] #[],
              Value.func (Fn.func 26) #[] #[], Value.func (Fn.func 27) #[] #[], Value.func (Fn.func 28) #[] #[],
              Value.func (Fn.func 29) #[] #[], Value.func (Fn.func 31) #[] #[], Value.func (Fn.func 32) #[] #[],
              Value.func (Fn.func 34) #[] #[], Value.func (Fn.func 35) #[] #[], Value.func (Fn.func 36) #[] #[]]
theorem grown_trans {a b c : World} (h : Grown a b) (k : Grown b c) : Grown a c :=
  ⟨World.keptBut_trans h.1 k.1, fun x => (k.2.1 x).trans (h.2.1 x), Nat.le_trans h.2.2 k.2.2⟩
theorem c19 (w : World) : Calls Try.prog 19 #[] w fun e w' => e = .returned fns ∧ Grown w w' := by
  go_enter Try.func19, Try.ntmps19
  go_wp2
  refine bodyPost_ret (v := fns) (by simp [results, Try.results19, go_sem]; rfl) rfl ⟨rfl, (Grown.refl _).alloc _ _⟩
theorem c11 (n : Int) (w : World) : Calls Try.prog 11 #[.int .i64 n] w fun e w' => e = .returned (.int .i64 (wrap32 n)) ∧ w = w' := by
  go_enter Try.func11, Try.ntmps11
  go_wp2
  go_ret
  have h : wrap64 (wrap32 n) = wrap32 n := IntWalk.wrap64_in _ (by unfold wrap32; omega)
  simp [h]
theorem c13 (op : Int) (b : Bool) (h : decide (1 ≤ op ∧ op ≤ 14) = b) (w : World) : Calls Try.prog 13 #[.int .i64 op] w fun e w' => e = .returned (.bool b) ∧ w = w' := by
  go_enter Try.func13, Try.ntmps13
  by_cases h1 : 1 ≤ op <;> by_cases h2 : op ≤ 14
  all_goals
    go_wp2
    go_ret
    subst h
    simp [h1, h2]
theorem do_of (op a b v : Int) (F : Nat) (h1 : 1 ≤ op) (h14 : op ≤ 14) (hi : ∀ w, (Instr.index 38 fns (.int .i64 op)).run Try.prog w = .ok (Value.func (Fn.func F) #[] #[]) w)
    (he : ∀ args w, (callFunc F args).run Try.prog w = .ok (.enter F args) w)
    (hF0 : ∀ w, Calls Try.prog F #[.int .i64 (wrap32 a), .int .i64 (wrap32 b)] w fun e w' => e = .returned (.int .i64 v) ∧ w = w') (w : World) :
    Calls Try.prog 9 #[.int .i64 op, .int .i64 a, .int .i64 b] w fun e w' => e = .returned (.tuple #[.int .i64 (wrap32 v), .int .i64 0]) ∧ Grown w w' := by
  have hF := Lib.hid hF0
  clear hF0
  have hkn : decide (1 ≤ op ∧ op ≤ 14) = true := by simp [h1, h14]
  have hKn := Lib.hid hkn
  clear hkn
  go_enter Try.func9, Try.ntmps9
  go_wp2_with (go_at_call 13; refine (c13 _ true hKn.out _).mono ?_; rintro e w' ⟨rfl, rfl⟩)
  go_region_held3 (fun _ => True) (exact trivial) (first | (go_at_call 19; refine (c19 _).mono ?_; rintro e w1 ⟨rfl, hw1⟩) | (go_at_call 11; refine (c11 _ _).mono ?_; rintro e w2 ⟨rfl, rfl⟩) | ((with_reducible refine (hF.out _).mono ?_); rintro e w2 ⟨rfl, rfl⟩))
  all_goals
    go_wp2
    go_ret2
    exact ⟨rfl, grown_trans (Grown.drew (Grown.refl _)) hw1⟩
end Go.Proofs.Ytdladbekkmnnhaa
