/- The specification's texts of numbers, signs, expressions: some texts of bounded length. -/
import Derived.Test.YtbppfhlpielpcaaDoorTkWordB
import Derived.Test.YtbppfhlpielpcaaDoorRfName
namespace Go.Proofs.YtbppfhlpielpcaaDoor
open Go.RowKit Tk
set_option linter.unusedVariables false
set_option maxRecDepth 100000
theorem dec_size (k : Nat) : ∀ u : Nat, u < 10 ^ (k + 1) → (Lib.decDigits u).length ≤ k + 1 := by
  induction k with
  | zero => intro u h; rw [Lib.decDigits_one (by simpa using h)]; simp
  | succ k ih =>
    intro u h
    rw [Lib.decDigits]
    split
    · simp
    · have := ih (u / 10) (by rw [Nat.pow_succ] at h; omega)
      rw [List.length_append]
      simp only [List.length_cons, List.length_nil]
      omega
theorem cat (a b : ByteArray) (h : a.size + b.size ≤ 100000) : ∃ r : ByteArray, r.size = a.size + b.size ∧ ∀ W : World, (Op.stringOp .add a b).run Tryd.prog W = .ok (.string r) W :=
  ⟨a ++ b, by simp, fun W => run_string_add_sum W a b (by omega)⟩
set_option maxHeartbeats 1000000 in
theorem number_any (n : Int) (h : -2147483647 ≤ n ∧ n ≤ 2147483647) (w : World) :
    Calls Tryd.prog 28 #[.int .i64 n] w fun e w' => ∃ s : ByteArray, e = .returned (.string s) ∧ s.size ≤ 11 ∧ Below w.heap.size w w' := by
  obtain ⟨h1, h2⟩ := h
  by_cases hn : n < 0
  · have hz := dec_size 9 (-n).toNat (by omega)
    obtain ⟨r, hr, hq⟩ := cat ⟨#[45]⟩ ⟨(Lib.decDigits (-n).toNat).toArray⟩ (by show 1 + (Lib.decDigits (-n).toNat).toArray.size ≤ 100000; simp; omega)
    have hr2 : r.size ≤ 11 := by rw [hr]; show 1 + (Lib.decDigits (-n).toNat).toArray.size ≤ 11; simp; omega
    have HR := Lib.hid hr2
    have HD := Lib.hid (fun (W : World) => decimal_any (-n).toNat (-n) W (Nat.le_refl _) (by omega) (by omega))
    clear hz hr hr2
    generalize (⟨(Lib.decDigits (-n).toNat).toArray⟩ : ByteArray) = s at *
    go_enter Tryd.func28, Tryd.ntmps28
    go_wp2_with fail
    refine (HD.out _).mono ?_
    rintro e w1 ⟨rfl, hb⟩
    have HB := Lib.hid hb
    clear hb
    go_wp2_with fail
    go_ret
    exact ⟨r, rfl, HR.out, HB.out⟩
  · have hz := dec_size 9 n.toNat (by omega)
    have HR := Lib.hid (show (⟨(Lib.decDigits n.toNat).toArray⟩ : ByteArray).size ≤ 11 by show (Lib.decDigits n.toNat).toArray.size ≤ 11; simp; omega)
    have HD := Lib.hid (fun (W : World) => decimal_any n.toNat n W (Nat.le_refl _) (by omega) (by omega))
    clear hz
    generalize (⟨(Lib.decDigits n.toNat).toArray⟩ : ByteArray) = s at *
    go_enter Tryd.func28, Tryd.ntmps28
    go_wp2_with fail
    refine (HD.out _).mono ?_
    rintro e w1 ⟨rfl, hb⟩
    have HB := Lib.hid hb
    clear hb
    go_wp2_with fail
    go_ret
    exact ⟨s, rfl, HR.out, HB.out⟩
def signNames : List ByteArray := [⟨#[]⟩, ⟨#[43]⟩, ⟨#[45]⟩, ⟨#[42]⟩, ⟨#[47]⟩, ⟨#[37]⟩, ⟨#[38]⟩, ⟨#[124]⟩, ⟨#[94]⟩, ⟨#[60, 60]⟩, ⟨#[62, 62]⟩, ⟨#[60]⟩, ⟨#[60, 61]⟩, ⟨#[61, 61]⟩, ⟨#[33, 61]⟩]
set_option maxHeartbeats 1000000 in
theorem sign4_any (n : Int) (h : 1 ≤ n ∧ n ≤ 14) (w : World) :
    Calls Tryd.prog 55 #[.int .i64 n] w fun e w' => ∃ s : ByteArray, e = .returned (.string s) ∧ s.size ≤ 2 ∧ Below w.heap.size w w' := by
  have hn : n = 1 ∨ n = 2 ∨ n = 3 ∨ n = 4 ∨ n = 5 ∨ n = 6 ∨ n = 7 ∨ n = 8 ∨ n = 9 ∨ n = 10 ∨ n = 11 ∨ n = 12 ∨ n = 13 ∨ n = 14 := by omega
  clear h
  rcases hn with rfl | rfl | rfl | rfl | rfl | rfl | rfl | rfl | rfl | rfl | rfl | rfl | rfl | rfl
  all_goals
    go_enter Tryd.func55, Tryd.ntmps55
    go_wp2_with fail
    go_ret
    exact ⟨_, rfl, by decide, (Below.refl _ _).alloc (Nat.le_refl _) _⟩
end Go.Proofs.YtbppfhlpielpcaaDoor
