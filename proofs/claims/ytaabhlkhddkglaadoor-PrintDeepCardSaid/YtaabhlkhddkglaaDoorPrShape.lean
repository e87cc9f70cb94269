/- Shapes of expressions: numbers and signs. -/
import Derived.Test.YtaabhlkhddkglaaDoorPrDeep
namespace Go.Proofs.YtaabhlkhddkglaaDoor
open Go.RowKit
set_option linter.unusedVariables false
set_option linter.unusedSimpArgs false
attribute [local go_sem] y_undef
def sgB (n : Int) : Bool := decide (-2147483647 ≤ n) && decide (n ≤ 2147483647)
set_option maxHeartbeats 1000000 in
theorem signed1_any (n : Int) (w : World) : Calls Tryd.prog 37 #[.int .i64 n] w fun e u => e = .returned (.bool (sgB n)) ∧ w = u := by
  obtain ⟨x, hx⟩ : ∃ x, decide (-2147483647 ≤ n) = x := ⟨_, rfl⟩
  obtain ⟨y, hy⟩ : ∃ y, decide (n ≤ 2147483647) = y := ⟨_, rfl⟩
  have HE := Lib.hid (show sgB n = (x && y) by unfold sgB; rw [hx, hy])
  cases x <;> cases y
  all_goals
    go_enter Tryd.func37, Tryd.ntmps37
    go_wp2
    go_ret
    exact ⟨by rw [HE.out]; rfl, rfl⟩
def EvI (w wr : World) (n : Int) (k : Nat) : Prop := w = wr ∧ (0 < k → sgB n = true)
set_option maxRecDepth 100000 in
set_option maxHeartbeats 2000000 in
theorem everyInt_any (n : Int) (g h : Nat) (w : World) (hg : w.cell? ⟨g, 0, none⟩ = some (.slice (some ⟨h, 0, none⟩) 1 1)) (hh : w.cell? ⟨h, 0, none⟩ = some (.int .i64 n)) :
    Calls Tryd.prog 36 #[.func (.func 37) #[] #[], .slice (some ⟨g, 0, none⟩) 1 1] w fun e u => e = .returned (.bool (sgB n)) ∧ w = u := by
  obtain ⟨x, hx⟩ : ∃ x, sgB n = x := ⟨_, rfl⟩
  have HX := Lib.hid hx
  have HG := Lib.hid (And.intro hg hh)
  have HC := Lib.hid (signed1_any n)
  rw [hx] at HC ⊢
  clear hg hh hx
  go_enter Tryd.func36, Tryd.ntmps36
  go_wp2
  go_loopw [11] (fun i wr => ∃ (k : Nat), k ≤ 1 ∧ i = .int .i64 k ∧ Hid (EvI w wr n k)) (fun i _ => 1 - (intOf i).toNat)
  case atStart => exact ⟨0, by omega, rfl, Lib.hid ⟨rfl, by simp⟩⟩
  case round =>
    obtain ⟨k, hk, rfl, HK⟩ := hrel
    have hw := HK.out.1
    subst hw
    by_cases hlt : k < 1
    · have hk0 : k = 0 := by omega
      have hlt' : (k : Int) < 1 := by omega
      have hg : w.cell? ⟨g, k, none⟩ = some (.slice (some ⟨h, 0, none⟩) 1 1) := by rw [hk0]; exact HG.out.1
      have HK0 := Lib.hid hk0
      clear HK hk0
      go_wp2_with fail
      go_loopw [17] (fun i wr => ∃ (j : Nat), j ≤ 1 ∧ i = .int .i64 j ∧ Hid (EvI w wr n j)) (fun i _ => 1 - (intOf i).toNat)
      case atStart => exact ⟨0, by omega, rfl, Lib.hid ⟨rfl, by simp⟩⟩
      case round =>
        obtain ⟨j, hj, rfl, HJ⟩ := hrel
        have hw := HJ.out.1
        subst hw
        by_cases hlj : j < 1
        · have hj0 : j = 0 := by omega
          subst hj0
          have hh := HG.out.2
          clear HJ
          go_wp2_with fail
          refine (HC.out _).mono ?_
          rintro e w2 ⟨rfl, rfl⟩
          cases x
          · go_wp2_with fail
            go_ret
            exact ⟨rfl, rfl⟩
          · go_wp2_with fail
            go_roundw
            case rel => exact ⟨1, by omega, by go_num, Lib.hid ⟨rfl, fun _ => HX.out⟩⟩
            case measure => simp [intOf]
        · have hj1 : j = 1 := by omega
          subst hj1
          have HR := Lib.hid (HJ.out.2 (by omega))
          clear HJ
          go_wp2_with fail
          go_roundw
          case rel => exact ⟨k + 1, by omega, by go_num, Lib.hid ⟨rfl, fun _ => HR.out⟩⟩
          case measure => simp [intOf]; omega
    · have hk1 : k = 1 := by omega
      subst hk1
      have HR := Lib.hid (HK.out.2 (by omega))
      clear HK
      go_wp2
      go_ret
      exact ⟨by rw [← HX.out, HR.out]; rfl, rfl⟩
set_option maxHeartbeats 1000000 in
theorem signed_any (n : Int) (h : Nat) (w : World) (hl : h < w.heap.size) (hh : w.cell? ⟨h, 0, none⟩ = some (.int .i64 n)) :
    Calls Tryd.prog 29 #[.slice (some ⟨h, 0, none⟩) 1 1] w fun e u => e = .returned (.bool (sgB n)) ∧ Below w.heap.size w u := by
  have HN := Lib.hid (everyInt_any n w.heap.size h (w.alloc (.cells #[.slice (some ⟨h, 0, none⟩) 1 1] 56)) (by simp) ((((Below.refl w.heap.size w).alloc (Nat.le_refl _) _).cell (p := ⟨h, 0, none⟩) hl).trans hh))
  clear hl hh
  go_enter Tryd.func29, Tryd.ntmps29
  go_wp2_with fail
  refine HN.out.mono ?_
  rintro e w1 ⟨rfl, rfl⟩
  go_wp2_with fail
  go_ret
  exact ⟨rfl, (Below.refl _ _).alloc (Nat.le_refl _) _⟩
end Go.Proofs.YtaabhlkhddkglaaDoor
