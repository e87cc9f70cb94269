/- The functions of package token and of its specification that look at one byte, or at names: what they answer. No condition but that a string is no longer than any string. -/
import Derived.Test.YtnhaenohmfhecaaDoorRows
import Derived.Test.YtnhaenohmfhecaaDoorTkPlain
import Derived.WalkKit
import Derived.ProofKit
import Derived.OpenShut
import Derived.BigQuiet
import Derived.Deep.QuietTactic
import Derived.Lib.Hide
import Derived.Lib.Strings
namespace Go.Proofs.YtnhaenohmfhecaaDoor
open Go.RowKit Tk
set_option linter.unusedVariables false
theorem ret_int {k : IntKind} {a b : Int} (h : a = b) : Ending.returned (.int k a) = .returned (.int k b) := by rw [h]
theorem ret_bool {a b : Bool} (h : a = b) : Ending.returned (.bool a) = .returned (.bool b) := by rw [h]

theorem letter_any (c : Int) (b : Bool) (h : lowB c = b) (w : World) : Calls Tryd.prog 27 #[.int .u8 c] w fun e w' => e = .returned (.bool b) ∧ w = w' := by
  subst h
  by_cases h1 : 97 ≤ c <;> by_cases h2 : c ≤ 122
  all_goals
    go_enter Tryd.func27, Tryd.ntmps27
    go_wp2
    go_ret
    simp [lowB, h1, h2]
theorem digit_any (c : Int) (b : Bool) (h : digB c = b) (w : World) : Calls Tryd.prog 29 #[.int .u8 c] w fun e w' => e = .returned (.bool b) ∧ w = w' := by
  subst h
  by_cases h1 : 48 ≤ c <;> by_cases h2 : c ≤ 57
  all_goals
    go_enter Tryd.func29, Tryd.ntmps29
    go_wp2
    go_ret
    simp [digB, h1, h2]
theorem rletter_any (c : Int) (b : Bool) (h : lowB c = b) (w : World) : Calls Tryd.prog 20 #[.int .u8 c] w fun e w' => e = .returned (.bool b) ∧ w = w' := by
  subst h
  by_cases h1 : 97 ≤ c <;> by_cases h2 : c ≤ 122
  all_goals
    go_enter Tryd.func20, Tryd.ntmps20
    go_wp2
    go_ret
    simp [lowB, h1, h2]
theorem rdigit_any (c : Int) (b : Bool) (h : digB c = b) (w : World) : Calls Tryd.prog 21 #[.int .u8 c] w fun e w' => e = .returned (.bool b) ∧ w = w' := by
  subst h
  by_cases h1 : 48 ≤ c <;> by_cases h2 : c ≤ 57
  all_goals
    go_enter Tryd.func21, Tryd.ntmps21
    go_wp2
    go_ret
    simp [digB, h1, h2]
theorem sep_any (c : Int) (b : Bool) (h : sepB c = b) (w : World) : Calls Tryd.prog 18 #[.int .u8 c] w fun e w' => e = .returned (.bool b) ∧ w = w' := by
  subst h
  by_cases h1 : c = 32
  · subst h1
    go_enter Tryd.func18, Tryd.ntmps18
    go_wp2
    go_ret
    simp [sepB]
  have b1 : (c == 32) = false := by simp [h1]
  by_cases h2 : c = 9
  · subst h2
    go_enter Tryd.func18, Tryd.ntmps18
    go_wp2
    go_ret
    simp [sepB]
  have b2 : (c == 9) = false := by simp [h2]
  by_cases h3 : c = 10
  · subst h3
    go_enter Tryd.func18, Tryd.ntmps18
    go_wp2
    go_ret
    simp [sepB]
  have b3 : (c == 10) = false := by simp [h3]
  have hf : sepB c = false := by simp [sepB, h1, h2, h3]
  have hF := Lib.hid hf
  clear hf h1 h2 h3
  go_enter Tryd.func18, Tryd.ntmps18
  go_wp2
  go_ret
  rw [hF.out]
  simp

theorem bs_at (s : ByteArray) (k : Nat) (h : k < s.size) : (bs s)[k]'(by unfold bs; simpa using h) = s[k] := rfl
theorem bs_len (s : ByteArray) : (bs s).length = s.size := by unfold bs; simp
set_option maxHeartbeats 400000 in
theorem wordSize_any (s : ByteArray) (hs : s.size ≤ maxLen) (w : World) :
    Calls Tryd.prog 24 #[.string s] w fun e w' => e = .returned (.int .i64 (ws true (bs s))) ∧ w = w' := by
  unfold maxLen at hs
  have hl := bs_len s
  have HL := Lib.hid hl
  clear hl
  go_enter Tryd.func24, Tryd.ntmps24
  go_wp2
  go_loop [3] (fun i => ∃ k : Nat, k ≤ s.size ∧ i = .int .i64 k ∧ Hid (ws true (bs s) = k + ws (k == 0) ((bs s).drop k))) (fun i => s.size - (intOf i).toNat)
  case atStart => exact ⟨0, Nat.zero_le _, rfl, Lib.hid (by simp)⟩
  case round =>
    obtain ⟨k, hk, rfl, hw⟩ := hrel
    by_cases hlt : k < s.size
    · have hlt' : k < (bs s).length := by rw [HL.out]; exact hlt
      cases hlo : lowB (s[k].toNat : Int)
      · have HLo := Lib.hid hlo
        clear hlo
        by_cases h0 : k = 0
        · subst h0
          have hfin : ws true (bs s) = 0 := by
            rw [hw.out]
            have lo : low ((bs s)[0]'hlt') = false := HLo.out
            rw [ws_stop (bs s) 0 _ hlt' (by simp [lo])]
          have HF := Lib.hid hfin
          clear hfin hw
          go_wp2_with (first | (go_at_call 27; refine (letter_any _ false HLo.out _).mono ?_; rintro e w' ⟨rfl, rfl⟩))
          go_ret
          exact ⟨by rw [HF.out]; rfl, rfl⟩
        · have hp : 0 < k := by omega
          cases hdi : digB (s[k].toNat : Int)
          · have HDi := Lib.hid hdi
            clear hdi
            have hfin : ws true (bs s) = k := by
              have lo : low ((bs s)[k]'hlt') = false := HLo.out
              have di : dig ((bs s)[k]'hlt') = false := HDi.out
              rw [hw.out, ws_stop (bs s) k _ hlt' (by simp [lo, di])]; rfl
            have HF := Lib.hid hfin
            clear hfin hw
            go_wp2_with (first | (go_at_call 27; refine (letter_any _ false HLo.out _).mono ?_; rintro e w' ⟨rfl, rfl⟩) | (go_at_call 29; refine (digit_any _ false HDi.out _).mono ?_; rintro e w' ⟨rfl, rfl⟩))
            go_ret
            exact ⟨ret_int (by rw [HF.out]), rfl⟩
          · have HDi := Lib.hid hdi
            clear hdi
            have hnext : ws true (bs s) = (k + 1 : Nat) + ws ((k + 1) == 0) ((bs s).drop (k + 1)) := by
              have lo : low ((bs s)[k]'hlt') = false := HLo.out
              have di : dig ((bs s)[k]'hlt') = true := HDi.out
              rw [hw.out, ws_step (bs s) k _ hlt' (by simp [di]; omega)]; simp; omega
            have HN := Lib.hid hnext
            clear hnext hw h0
            go_wp2_with (first | (go_at_call 27; refine (letter_any _ false HLo.out _).mono ?_; rintro e w' ⟨rfl, rfl⟩) | (go_at_call 29; refine (digit_any _ true HDi.out _).mono ?_; rintro e w' ⟨rfl, rfl⟩))
            go_round
            case rel => exact ⟨k + 1, by omega, by go_num, HN⟩
            case measure => simp [intOf]; omega
      · have HLo := Lib.hid hlo
        clear hlo
        have hnext : ws true (bs s) = (k + 1 : Nat) + ws ((k + 1) == 0) ((bs s).drop (k + 1)) := by
          have lo : low ((bs s)[k]'hlt') = true := HLo.out
          rw [hw.out, ws_step (bs s) k _ hlt' (by simp [lo])]; simp; omega
        have HN := Lib.hid hnext
        clear hnext hw
        go_wp2_with (first | (go_at_call 27; refine (letter_any _ true HLo.out _).mono ?_; rintro e w' ⟨rfl, rfl⟩))
        go_round
        case rel => exact ⟨k + 1, by omega, by go_num, HN⟩
        case measure => simp [intOf]; omega
    · have hfin : ws true (bs s) = k := by
        rw [hw.out, ws_end _ _ _ (by rw [HL.out]; omega)]; rfl
      have HF := Lib.hid hfin
      clear hfin hw
      go_wp2
      go_ret
      exact ⟨ret_int (by rw [HF.out]), rfl⟩
end Go.Proofs.YtnhaenohmfhecaaDoor
