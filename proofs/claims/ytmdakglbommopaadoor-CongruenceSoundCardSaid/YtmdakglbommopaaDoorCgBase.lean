/- What walks over residues in memory share: comparisons; All, None, Of, Bits and low of the specification. No condition. -/
import Derived.Test.YtmdakglbommopaaDoorStBase
import Derived.Test.YtmdakglbommopaaDoorWdRef
import Derived.Test.YtmdakglbommopaaDoorCgOrder
namespace Go.Proofs.YtmdakglbommopaaDoor
open Go.RowKit
set_option linter.unusedVariables false
set_option linter.unusedSimpArgs false
attribute [local go_sem] y_undef
theorem rsFields : Tryd.prog.fieldsOf 23 = #[{ name := "M", type := 3, offset := 0, embedded := false, tag := "", pkgPath := "", byteOffset := 0 }, { name := "R", type := 3, offset := 1, embedded := false, tag := "", pkgPath := "", byteOffset := 8 }] := by kernel_rfl
theorem rs_eql (a b c d : Int) (r : Bool) (h : ((a == c) && (b == d)) = r) (w : World) : (binOp .eql 23 (.agg #[.int .i64 a, .int .i64 b]) (.agg #[.int .i64 c, .int .i64 d])).run Tryd.prog w = .ok (.bool r) w := by
  subst h
  rw [run_eql_struct, run_equalIn_agg w 9999 _ _ _ (by kernel_rfl) (by kernel_rfl), rsFields]
  simp [go_sem, Tryd.underlying3]
  by_cases h1 : a = c <;> by_cases h2 : b = d <;> simp [h1, h2]
theorem rs_neq (a b c d : Int) (r : Bool) (h : (!((a == c) && (b == d))) = r) (w : World) : (binOp .neq 23 (.agg #[.int .i64 a, .int .i64 b]) (.agg #[.int .i64 c, .int .i64 d])).run Tryd.prog w = .ok (.bool r) w := by
  subst h
  rw [run_neq_struct, run_equalIn_agg w 9999 _ _ _ (by kernel_rfl) (by kernel_rfl), rsFields]
  simp [go_sem, Tryd.underlying3]
  by_cases h1 : a = c <;> by_cases h2 : b = d <;> simp [h1, h2]
theorem rs_guard (op : BinOp) (x y : Operand) (xs ys : Array Value) (w : World) : (eqGuard op 23 x y (.agg xs) (.agg ys)).run Tryd.prog w = .ok () w := run_eqGuard_agg w op _ x y xs ys (by kernel_rfl)
theorem kAll_any (w : World) : Calls Tryd.prog 10 #[] w fun e w' => e = .returned (.agg #[.int .i64 1, .int .i64 0]) ∧ Below w.heap.size w w' := by
  go_enter Tryd.func10, Tryd.ntmps10
  go_wp2
  refine bodyPost_ret (v := .agg #[.int .i64 1, .int .i64 0]) (by simp [results, Tryd.results10, go_sem]) rfl ⟨rfl, ((Ahead.refl w).alloc _).1⟩
theorem kNone_any (w : World) : Calls Tryd.prog 12 #[] w fun e w' => e = .returned (.agg #[.int .i64 (-1), .int .i64 0]) ∧ Below w.heap.size w w' := by
  go_enter Tryd.func12, Tryd.ntmps12
  go_wp2
  refine bodyPost_ret (v := .agg #[.int .i64 (-1), .int .i64 0]) (by simp [results, Tryd.results12, go_sem]) rfl ⟨rfl, ((Ahead.refl w).alloc _).1⟩
theorem kOf_any (n : Int) (r : Rs) (h : Rs.sing n = r) (w : World) : Calls Tryd.prog 30 #[.int .i64 n] w fun e w' => e = .returned (.agg #[.int .i64 r.m, .int .i64 r.r]) ∧ Below w.heap.size w w' := by
  subst h
  go_enter Tryd.func30, Tryd.ntmps30
  go_wp2_with (go_at_call 35; refine (wdWrap_any _ _).mono ?_; rintro e w' ⟨rfl, rfl⟩)
  refine bodyPost_ret (v := .agg #[.int .i64 0, .int .i64 (wrap32 n)]) (by simp [results, Tryd.results30, go_sem]) rfl ⟨rfl, ((Ahead.refl w).alloc _).1⟩
theorem shl_one {k : Nat} (hk : k ≤ 61) : IntKind.i64.wrap (2 ^ k) = 2 ^ k := by
  have h1 := Rs.p2_pos k
  have h2 := Rs.p2_mono hk
  have e : (2 : Int) ^ 61 = 2305843009213693952 := by decide
  exact IntWalk.i64_in _ (by omega)
set_option maxHeartbeats 1000000 in
theorem kBits_any (a b : Int) (hm : a ≤ 1073741824) (w : World) : Calls Tryd.prog 42 #[.agg #[.int .i64 a, .int .i64 b]] w fun e w' => e = .returned (.int .i64 (Rs.bt ⟨a, b⟩)) ∧ Below w.heap.size w w' := by
  have hA := (Ahead.refl w).alloc (.cells #[.int .i64 a, .int .i64 b] 23)
  by_cases h0 : a = 0
  · subst h0
    go_enter Tryd.func42, Tryd.ntmps42
    go_wp2
    go_ret
    exact ⟨rfl, hA.1⟩
  · have hb : (a == 0) = false := by simp [h0]
    have HB := Lib.hid (show Rs.bt ⟨a, b⟩ = Rs.lgFrom 31 0 a from if_neg h0)
    clear h0
    go_enter Tryd.func42, Tryd.ntmps42
    go_wp2
    go_loop [3] (fun v => ∃ k : Nat, k ≤ 30 ∧ v = .int .i64 k ∧ Hid (Rs.lgFrom (31 - k) k a = Rs.lgFrom 31 0 a)) (fun v => 31 - (intOf v).toNat)
    case atStart => exact ⟨0, by omega, rfl, Lib.hid rfl⟩
    case round =>
      obtain ⟨k, hk, rfl, hR⟩ := hrel
      have h2 := shl_one (k := k) (by omega)
      have hu : IntKind.u64.wrap (k : Int) = k := by rw [IntWalk.u64_in]; omega
      by_cases hlt : (2 : Int) ^ k < a
      · have HS := Lib.hid (show k + 1 ≤ 30 ∧ Rs.lgFrom (31 - (k + 1)) (k + 1) a = Rs.lgFrom 31 0 a from by
          have e : (2 : Int) ^ 30 = 1073741824 := by decide
          have h3 : k < 30 := by
            by_cases h : k < 30
            · exact h
            · obtain rfl : k = 30 := by omega
              omega
          have h4 := Rs.lgFrom_step (f := 31 - (k + 1)) hlt
          rw [show 31 - (k + 1) + 1 = 31 - k by omega] at h4
          exact ⟨h3, by rw [← h4]; exact hR.out⟩)
        go_wp2
        go_round
        case rel => exact ⟨k + 1, HS.out.1, by go_num, Lib.hid HS.out.2⟩
        case measure => simp [intOf]; omega
      · have HS := Lib.hid (show Rs.lgFrom 31 0 a = k from by
          have h4 := Rs.lgFrom_stop (f := 30 - k) hlt
          rw [show 30 - k + 1 = 31 - k by omega] at h4
          rw [← hR.out, h4])
        go_wp2
        go_ret
        exact ⟨by rw [HB.out, HS.out]; rfl, hA.1⟩
theorem run_min30 (k : Nat) (ts : Array TypeId) (t : TypeId) (w : World) : (Builtin.min_ ts t #[.int .i64 k, .int .i64 30]).run Tryd.prog w = .ok (.int .i64 ((min k 30 : Nat) : Int)) w := by
  simp [Builtin.min_, Builtin.min2]
  split <;> omega
theorem tmod_bds (n : Int) {p : Int} (hp : 1 ≤ p) : -p < n.tmod p ∧ n.tmod p < p := by
  refine ⟨?_, Int.tmod_lt_of_pos n (by omega)⟩
  have h := Int.tmod_lt_of_pos (-n) (show 0 < p by omega)
  rw [Int.neg_tmod] at h
  omega
theorem low_mod (n : Int) {p : Int} (hp : 1 ≤ p) : (n.tmod p + p).tmod p = n % p := by
  have h := tmod_bds n hp
  rw [Int.tmod_eq_emod_of_nonneg (by omega), Int.add_emod_right]
  by_cases hn : 0 ≤ n
  · rw [Int.tmod_eq_emod_of_nonneg hn, Int.emod_emod]
  · have e : n.tmod p = -((-n) % p) := by rw [← Int.tmod_eq_emod_of_nonneg (show 0 ≤ -n by omega), Int.neg_tmod, Int.neg_neg]
    rw [e]
    apply Int.emod_eq_emod_iff_emod_sub_eq_zero.2
    have := Int.emod_add_mul_ediv (-n) p
    apply Int.emod_eq_zero_of_dvd
    exact ⟨(-n) / p, by omega⟩
set_option maxHeartbeats 1000000 in
theorem kLow_any (n : Int) (k : Nat) (r : Rs) (h : Rs.low n k = r) (hn : -2147483648 ≤ n ∧ n ≤ 2147483647) (w : World) : Calls Tryd.prog 43 #[.int .i64 n, .int .i64 k] w fun e w' => e = .returned (.agg #[.int .i64 r.m, .int .i64 r.r]) ∧ Below w.heap.size w w' := by
  have hm := fun (ts : Array TypeId) (t : TypeId) (W : World) => run_min30 k ts t W
  obtain ⟨j, hj⟩ : ∃ j, min k 30 = j := ⟨_, rfl⟩
  have hj30 : j ≤ 30 := by omega
  have hu : IntKind.u64.wrap (j : Int) = j := by rw [IntWalk.u64_in]; omega
  have h2 := shl_one (k := j) (by omega)
  have hp := Rs.p2_pos j
  have hp30 := Rs.p2_30 hj30
  have hne : ¬ (2 : Int) ^ j = 0 := by omega
  have ht := tmod_bds n hp
  have w1 : IntKind.i64.wrap (n.tmod (2 ^ j)) = n.tmod (2 ^ j) := IntWalk.i64_in _ (by omega)
  have w2 : IntKind.i64.wrap (n.tmod (2 ^ j) + 2 ^ j) = n.tmod (2 ^ j) + 2 ^ j := IntWalk.i64_in _ (by omega)
  have w3 : IntKind.i64.wrap ((n.tmod (2 ^ j) + 2 ^ j).tmod (2 ^ j)) = (n.tmod (2 ^ j) + 2 ^ j).tmod (2 ^ j) := IntWalk.i64_in _ (by have := tmod_bds (n.tmod (2 ^ j) + 2 ^ j) hp; omega)
  have HR := Lib.hid (show r = ⟨2 ^ j, (n.tmod (2 ^ j) + 2 ^ j).tmod (2 ^ j)⟩ by rw [← h, low_mod n hp]; unfold Rs.low; rw [hj])
  rw [hj] at hm
  clear h hj ht hp
  go_enter Tryd.func43, Tryd.ntmps43
  go_wp2
  rw [HR.out]
  refine bodyPost_ret (v := .agg #[.int .i64 (2 ^ j), .int .i64 ((n.tmod (2 ^ j) + 2 ^ j).tmod (2 ^ j))]) (by simp [results, Tryd.results43, go_sem]) rfl ⟨rfl, ((Ahead.refl w).alloc _).1⟩
end Go.Proofs.YtmdakglbommopaaDoor
