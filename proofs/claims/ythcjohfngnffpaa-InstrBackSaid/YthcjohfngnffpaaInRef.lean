/- The specification's Check of an instruction. No condition. -/
import Derived.Test.YthcjohfngnffpaaInMath
import Derived.BigQuiet
import Derived.Deep.RegionWith
import Derived.StillTailTactics
import Derived.Deep.DeepCutAuto
import Derived.Deep.CutBlock
import Derived.Laws.StructEq
namespace Go.Proofs.Ythcjohfngnffpaa
open Go.RowKit
set_option linter.unusedVariables false
set_option linter.unusedSimpArgs false
attribute [local go_sem] y_undef
namespace In
def q3 (i : I) : Bool := inn 0 7 i.a && inn 0 7 i.b && inn 0 7 i.c
def kt (i : I) : Bool :=
  if i.k = 1 then inn (-2147483648) 2147483647 i.m else if i.k = 3 then inn 1 14 i.o else if i.k = 4 ∨ i.k = 5 ∨ i.k = 6 ∨ i.k = 7 then inn 0 1023 i.m else if i.k = 8 ∨ i.k = 9 then inn 0 3 i.m else true
def zi (i : I) : I :=
  if i.k = 1 then ⟨i.k, i.a, 0, 0, 0, i.m⟩ else if i.k = 2 then ⟨i.k, i.a, i.b, 0, 0, 0⟩ else if i.k = 3 then ⟨i.k, i.a, i.b, i.c, i.o, 0⟩ else if i.k = 4 ∨ i.k = 5 then ⟨i.k, i.a, i.b, 0, 0, i.m⟩
  else if i.k = 6 then ⟨i.k, 0, 0, 0, 0, i.m⟩ else if i.k = 7 then ⟨i.k, i.a, 0, 0, 0, i.m⟩ else if i.k = 8 ∨ i.k = 9 then ⟨i.k, 0, 0, 0, 0, i.m⟩ else ⟨i.k, 0, 0, 0, 0, 0⟩
theorem chk_ref (i : I) (hk : kn i.k = true) : chk i = if (q3 i && kt i && decide (zi i = i)) = true then 0 else 10 := by
  unfold chk
  rw [if_pos hk]
  have h : right (sh i.k) i = true ↔ (q3 i && kt i && decide (zi i = i)) = true := by
    obtain ⟨k, a, b, c, o, m⟩ := i
    simp only at hk
    simp only [right_iff, Bool.and_eq_true, decide_eq_true_eq]
    unfold q3
    simp only [Bool.and_eq_true, inn_iff]
    rcases kn_cases hk with rfl | rfl | rfl | rfl | rfl | rfl | rfl | rfl | rfl | rfl | rfl <;>
      (simp [sh, kt, zi, inn]; omega)
  by_cases h1 : right (sh i.k) i = true
  · rw [if_pos h1, if_pos (h.1 h1)]
  · rw [if_neg h1, if_neg (fun x => h1 (h.2 x))]
end In
theorem in_fields : Try.prog.fieldsOf 26 = #[{ name := "Ins", type := 3, offset := 0, embedded := false, tag := "", pkgPath := "", byteOffset := 0 }, { name := "A", type := 3, offset := 1, embedded := false, tag := "", pkgPath := "", byteOffset := 8 }, { name := "B", type := 3, offset := 2, embedded := false, tag := "", pkgPath := "", byteOffset := 16 }, { name := "C", type := 3, offset := 3, embedded := false, tag := "", pkgPath := "", byteOffset := 24 }, { name := "Op", type := 3, offset := 4, embedded := false, tag := "", pkgPath := "", byteOffset := 32 }, { name := "Imm", type := 3, offset := 5, embedded := false, tag := "", pkgPath := "", byteOffset := 40 }] := by kernel_rfl
theorem in_eq (x y : In.I) : ((x.k == y.k) && (x.a == y.a) && (x.b == y.b) && (x.c == y.c) && (x.o == y.o) && (x.m == y.m)) = decide (x = y) := by
  obtain ⟨k, a, b, c, o, m⟩ := x
  obtain ⟨k', a', b', c', o', m'⟩ := y
  simp only [In.I.mk.injEq]
  by_cases h1 : k = k' <;> by_cases h2 : a = a' <;> by_cases h3 : b = b' <;> by_cases h4 : c = c' <;> by_cases h5 : o = o' <;> by_cases h6 : m = m' <;> simp [h1, h2, h3, h4, h5, h6]
theorem in_equal (x y : In.I) (w : World) : ((Op.equalIn 10000 26 (.agg #[.int .i64 x.k, .int .i64 x.a, .int .i64 x.b, .int .i64 x.c, .int .i64 x.o, .int .i64 x.m]) (.agg #[.int .i64 y.k, .int .i64 y.a, .int .i64 y.b, .int .i64 y.c, .int .i64 y.o, .int .i64 y.m])).run Try.prog w) = .ok (decide (x = y)) w := by
  rw [run_equalIn_agg w 9999 _ _ _ (by kernel_rfl) (by kernel_rfl), in_fields, ← in_eq]
  simp [go_sem, Try.underlying3]
  by_cases h1 : x.k = y.k <;> by_cases h2 : x.a = y.a <;> by_cases h3 : x.b = y.b <;> by_cases h4 : x.c = y.c <;> by_cases h5 : x.o = y.o <;> by_cases h6 : x.m = y.m <;> simp [h1, h2, h3, h4, h5, h6]
theorem in_eql (x y : In.I) (w : World) : (binOp .eql 26 (.agg #[.int .i64 x.k, .int .i64 x.a, .int .i64 x.b, .int .i64 x.c, .int .i64 x.o, .int .i64 x.m]) (.agg #[.int .i64 y.k, .int .i64 y.a, .int .i64 y.b, .int .i64 y.c, .int .i64 y.o, .int .i64 y.m])).run Try.prog w = .ok (.bool (decide (x = y))) w := by
  rw [run_eql_struct, in_equal]; rfl
theorem in_neq (x y : In.I) (w : World) : (binOp .neq 26 (.agg #[.int .i64 x.k, .int .i64 x.a, .int .i64 x.b, .int .i64 x.c, .int .i64 x.o, .int .i64 x.m]) (.agg #[.int .i64 y.k, .int .i64 y.a, .int .i64 y.b, .int .i64 y.c, .int .i64 y.o, .int .i64 y.m])).run Try.prog w = .ok (.bool (!decide (x = y))) w := by
  rw [run_neq_struct, in_equal]; rfl
theorem in_guard (op : BinOp) (x y : Operand) (xs ys : Array Value) (w : World) : (eqGuard op 26 x y (.agg xs) (.agg ys)).run Try.prog w = .ok () w := run_eqGuard_agg w op _ x y xs ys (by kernel_rfl)
set_option maxHeartbeats 8000000 in
theorem rin_any (n m : Int) (r : Bool) (hr : In.inn 0 (m - 1) n = r) (w : World) : Calls Try.prog 30 #[.int .i64 n, .int .i64 m] w fun e w' => e = .returned (.bool r) ∧ w = w' := by
  subst hr
  unfold In.inn
  go_enter Try.func30, Try.ntmps30
  by_cases h1 : 0 ≤ n <;> by_cases h2 : n < m
  all_goals
    have h3 : decide (n ≤ m - 1) = decide (n < m) := by congr 1; apply propext; omega
    rw [h3]
    clear h3
    go_wp2
    go_ret
    simp [h1, h2]
set_option maxHeartbeats 8000000 in
theorem rwd_any (n : Int) (r : Bool) (hr : In.inn (-2147483648) 2147483647 n = r) (w : World) : Calls Try.prog 31 #[.int .i64 n] w fun e w' => e = .returned (.bool r) ∧ w = w' := by
  subst hr
  unfold In.inn
  go_enter Try.func31, Try.ntmps31
  by_cases h1 : -2147483648 ≤ n <;> by_cases h2 : n < 2147483648
  all_goals
    have h3 : decide (n ≤ 2147483647) = decide (n < 2147483648) := by congr 1; apply propext; omega
    rw [h3]
    clear h3
    go_wp2
    go_ret
    simp [h1, h2]
set_option maxHeartbeats 8000000 in
theorem rkn_any (n : Int) (r : Bool) (hr : In.inn 1 14 n = r) (w : World) : Calls Try.prog 32 #[.int .i64 n] w fun e w' => e = .returned (.bool r) ∧ w = w' := by
  subst hr
  unfold In.inn
  go_enter Try.func32, Try.ntmps32
  by_cases h1 : 1 ≤ n <;> by_cases h2 : n ≤ 14
  all_goals
    go_wp2
    go_ret
    simp [h1, h2]
end Go.Proofs.Ythcjohfngnffpaa
