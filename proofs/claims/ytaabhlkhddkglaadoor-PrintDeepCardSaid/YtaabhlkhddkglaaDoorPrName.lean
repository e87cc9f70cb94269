/- The functions of package token and of its specification that look at one byte, or at names: what they answer. No condition but that a string is no longer than any string. -/
import Derived.Test.YtaabhlkhddkglaaDoorRows
import Derived.Test.YtaabhlkhddkglaaDoorStBase
import Derived.Test.YtaabhlkhddkglaaDoorTkPlain
import Derived.WalkKit
import Derived.ProofKit
import Derived.OpenShut
import Derived.BigQuiet
import Derived.Deep.QuietTactic
import Derived.Lib.Hide
import Derived.Lib.Strings
namespace Go.Proofs.YtaabhlkhddkglaaDoor
open Go.RowKit Tk
set_option linter.unusedVariables false
theorem ret_int {k : IntKind} {a b : Int} (h : a = b) : Ending.returned (.int k a) = .returned (.int k b) := by rw [h]

theorem letter_any (c : Int) (b : Bool) (h : lowB c = b) (w : World) : Calls Tryd.prog 52 #[.int .u8 c] w fun e w' => e = .returned (.bool b) ∧ w = w' := by
  subst h
  by_cases h1 : 97 ≤ c <;> by_cases h2 : c ≤ 122
  all_goals
    go_enter Tryd.func52, Tryd.ntmps52
    go_wp2
    go_ret
    simp [lowB, h1, h2]
theorem digit_any (c : Int) (b : Bool) (h : digB c = b) (w : World) : Calls Tryd.prog 53 #[.int .u8 c] w fun e w' => e = .returned (.bool b) ∧ w = w' := by
  subst h
  by_cases h1 : 48 ≤ c <;> by_cases h2 : c ≤ 57
  all_goals
    go_enter Tryd.func53, Tryd.ntmps53
    go_wp2
    go_ret
    simp [digB, h1, h2]
theorem rletter_any (c : Int) (b : Bool) (h : lowB c = b) (w : World) : Calls Tryd.prog 41 #[.int .u8 c] w fun e w' => e = .returned (.bool b) ∧ w = w' := by
  subst h
  by_cases h1 : 97 ≤ c <;> by_cases h2 : c ≤ 122
  all_goals
    go_enter Tryd.func41, Tryd.ntmps41
    go_wp2
    go_ret
    simp [lowB, h1, h2]
theorem rdigit_any (c : Int) (b : Bool) (h : digB c = b) (w : World) : Calls Tryd.prog 42 #[.int .u8 c] w fun e w' => e = .returned (.bool b) ∧ w = w' := by
  subst h
  by_cases h1 : 48 ≤ c <;> by_cases h2 : c ≤ 57
  all_goals
    go_enter Tryd.func42, Tryd.ntmps42
    go_wp2
    go_ret
    simp [digB, h1, h2]
theorem bs_at (s : ByteArray) (k : Nat) (h : k < s.size) : (bs s)[k]'(by unfold bs; simpa using h) = s[k] := rfl
theorem bs_len (s : ByteArray) : (bs s).length = s.size := by unfold bs; simp
set_option maxHeartbeats 400000 in
theorem wordSize_any (s : ByteArray) (hs : s.size ≤ maxLen) (w : World) :
    Calls Tryd.prog 43 #[.string s] w fun e w' => e = .returned (.int .i64 (ws true (bs s))) ∧ w = w' := by
  unfold maxLen at hs
  have hl := bs_len s
  have HL := Lib.hid hl
  clear hl
  go_enter Tryd.func43, Tryd.ntmps43
  go_wp2
  go_loop [3] (fun i => ∃ k : Nat, k ≤ s.size ∧ i = .int .i64 k ∧ Hid (ws true (bs s) = k + ws (k == 0) ((bs s).drop k))) (fun i => s.size - (intOf i).toNat)
  case atStart => exact ⟨0, Nat.zero_le _, rfl, Lib.hid (by simp)⟩
  case round =>
    obtain ⟨k, hk, rfl, hw⟩ := hrel
    by_cases hlt : k < s.size
    · have hlt' : k < (bs s).length := by rw [HL.out]; exact hlt
      cases hlo : lowB (s[k].toNat : Int)
      · have HLo := Lib.hid hlo
        clear hlo
        by_cases h0 : k = 0
        · subst h0
          have hfin : ws true (bs s) = 0 := by
            rw [hw.out]
            have lo : low ((bs s)[0]'hlt') = false := HLo.out
            rw [ws_stop (bs s) 0 _ hlt' (by simp [lo])]
          have HF := Lib.hid hfin
          clear hfin hw
          go_wp2_with (first | (go_at_call 52; refine (letter_any _ false HLo.out _).mono ?_; rintro e w' ⟨rfl, rfl⟩))
          go_ret
          exact ⟨by rw [HF.out]; rfl, rfl⟩
        · have hp : 0 < k := by omega
          cases hdi : digB (s[k].toNat : Int)
          · have HDi := Lib.hid hdi
            clear hdi
            have hfin : ws true (bs s) = k := by
              have lo : low ((bs s)[k]'hlt') = false := HLo.out
              have di : dig ((bs s)[k]'hlt') = false := HDi.out
              rw [hw.out, ws_stop (bs s) k _ hlt' (by simp [lo, di])]; rfl
            have HF := Lib.hid hfin
            clear hfin hw
            go_wp2_with (first | (go_at_call 52; refine (letter_any _ false HLo.out _).mono ?_; rintro e w' ⟨rfl, rfl⟩) | (go_at_call 53; refine (digit_any _ false HDi.out _).mono ?_; rintro e w' ⟨rfl, rfl⟩))
            go_ret
            exact ⟨ret_int (by rw [HF.out]), rfl⟩
          · have HDi := Lib.hid hdi
            clear hdi
            have hnext : ws true (bs s) = (k + 1 : Nat) + ws ((k + 1) == 0) ((bs s).drop (k + 1)) := by
              have lo : low ((bs s)[k]'hlt') = false := HLo.out
              have di : dig ((bs s)[k]'hlt') = true := HDi.out
              rw [hw.out, ws_step (bs s) k _ hlt' (by simp [di]; omega)]; simp; omega
            have HN := Lib.hid hnext
            clear hnext hw h0
            go_wp2_with (first | (go_at_call 52; refine (letter_any _ false HLo.out _).mono ?_; rintro e w' ⟨rfl, rfl⟩) | (go_at_call 53; refine (digit_any _ true HDi.out _).mono ?_; rintro e w' ⟨rfl, rfl⟩))
            go_round
            case rel => exact ⟨k + 1, by omega, by go_num, HN⟩
            case measure => simp [intOf]; omega
      · have HLo := Lib.hid hlo
        clear hlo
        have hnext : ws true (bs s) = (k + 1 : Nat) + ws ((k + 1) == 0) ((bs s).drop (k + 1)) := by
          have lo : low ((bs s)[k]'hlt') = true := HLo.out
          rw [hw.out, ws_step (bs s) k _ hlt' (by simp [lo])]; simp; omega
        have HN := Lib.hid hnext
        clear hnext hw
        go_wp2_with (first | (go_at_call 52; refine (letter_any _ true HLo.out _).mono ?_; rintro e w' ⟨rfl, rfl⟩))
        go_round
        case rel => exact ⟨k + 1, by omega, by go_num, HN⟩
        case measure => simp [intOf]; omega
    · have hfin : ws true (bs s) = k := by
        rw [hw.out, ws_end _ _ _ (by rw [HL.out]; omega)]; rfl
      have HF := Lib.hid hfin
      clear hfin hw
      go_wp2
      go_ret
      exact ⟨ret_int (by rw [HF.out]), rfl⟩
theorem bs_nil {s : ByteArray} (h : s.size = 0) : bs s = [] := List.eq_nil_of_length_eq_zero (by rw [bs_len]; exact h)
theorem nameB_true (s : ByteArray) (h1 : 0 < s.size) (h2 : s.size ≤ 12) : nameB (bs s) = (ws true (bs s) == s.size) := by
  have hne : bs s ≠ [] := fun e => by have := bs_len s; rw [e] at this; simp at this; omega
  simp [nameB, hne, bs_len, h2]
theorem nameB_long (s : ByteArray) (h2 : 12 < s.size) : nameB (bs s) = false := by
  have : ¬ (s.size ≤ 12) := by omega
  simp [nameB, bs_len, this]
theorem nameB_empty (s : ByteArray) (h2 : s.size = 0) : nameB (bs s) = false := by
  simp [nameB, bs_nil h2]
set_option maxHeartbeats 400000 in
theorem name_any (s : ByteArray) (hs : s.size ≤ maxLen) (w : World) :
    Calls Tryd.prog 38 #[.string s] w fun e w' => e = .returned (.bool (nameB (bs s))) ∧ w = w' := by
  by_cases h0 : s.size = 0
  · have hsn : s = ⟨#[]⟩ := ByteArray.ext (Array.eq_empty_of_size_eq_zero h0)
    subst hsn
    go_enter Tryd.func38, Tryd.ntmps38
    go_wp2
    go_ret
    exact ⟨rfl, rfl⟩
  · have hp : 0 < s.size := by omega
    have e2 : s.toList.isEmpty = false := by
      cases hq : s.toList with
      | nil => rw [Lib.toList_data] at hq; have := bs_len s; unfold bs at this; rw [hq] at this; simp at this; omega
      | cons a b => rfl
    by_cases hl : s.size ≤ 12
    · have hN := Lib.hid (nameB_true s hp hl)
      have hW := Lib.hid (wordSize_any s hs)
      have hs' := hs
      unfold maxLen at hs'
      clear h0
      go_enter Tryd.func38, Tryd.ntmps38
      go_wp2_with (go_at_call 43; refine (hW.out _).mono ?_; rintro e w' ⟨rfl, rfl⟩)
      go_ret
      exact ⟨by rw [hN.out]; apply ret_bool; first | rfl | (rw [Bool.eq_iff_iff]; simp; omega), rfl⟩
    · have hN := Lib.hid (nameB_long s (by omega))
      have hl' : 12 < s.size := by omega
      go_enter Tryd.func38, Tryd.ntmps38
      go_wp2
      go_ret
      exact ⟨by rw [hN.out]; rfl, rfl⟩

/-- All bytes from k on are letters or digits. -/
def okW (l : List UInt8) (k : Nat) : Bool := (l.drop k).all fun c => low c || dig c
theorem okW_step (l : List UInt8) (k : Nat) (h : k < l.length) : okW l k = ((low l[k] || dig l[k]) && okW l (k + 1)) := by
  unfold okW; rw [drop_at l k h]; rfl
theorem okW_end (l : List UInt8) (k : Nat) (h : l.length ≤ k) : okW l k = true := by
  unfold okW; rw [List.drop_of_length_le h]; rfl
theorem ws_all (f : Bool) (l : List UInt8) (hf : f = false) : (ws f l == l.length) = l.all fun c => low c || dig c := by
  subst hf
  induction l with
  | nil => rfl
  | cons c r ih =>
    rw [ws]
    by_cases h : (low c || dig c) = true
    · rw [if_pos (by simpa using h), List.all_cons, h, Bool.true_and, ← ih, Bool.eq_iff_iff]; simp; omega
    · rw [if_neg (by simpa using h), List.all_cons]
      have : (low c || dig c) = false := by simpa using h
      rw [this]; simp
theorem nameB_ok (l : List UInt8) (h1 : 0 < l.length) (h2 : l.length ≤ 12) (hl : low l[0] = true) : nameB l = okW l 0 := by
  match l, h1, hl with
  | c :: r, _, hl =>
    have hl : low c = true := hl
    have := ws_all false r rfl
    unfold nameB okW
    rw [ws, if_pos (by simp [hl])]
    rw [List.drop_zero, List.all_cons, hl, ← this]
    have : (c :: r).length ≤ 12 := h2
    rw [Bool.eq_iff_iff]
    simp at this ⊢; omega
theorem nameB_no (l : List UInt8) (h1 : 0 < l.length) (hl : low l[0] = false) : nameB l = false := by
  match l, h1, hl with
  | c :: r, _, hl =>
    have hl : low c = false := hl
    unfold nameB
    rw [ws, if_neg (by simp [hl])]
    simp
set_option maxHeartbeats 400000 in
theorem rname_any (s : ByteArray) (hs : s.size ≤ maxLen) (w : World) :
    Calls Tryd.prog 33 #[.string s] w fun e w' => e = .returned (.bool (nameB (bs s))) ∧ w = w' := by
  unfold maxLen at hs
  have HL := Lib.hid (bs_len s)
  by_cases h0 : s.size < 1
  · have hN := Lib.hid (nameB_empty s (by omega))
    go_enter Tryd.func33, Tryd.ntmps33
    go_wp2
    go_ret
    exact ⟨by rw [hN.out]; rfl, rfl⟩
  by_cases h12 : 12 < s.size
  · have hN := Lib.hid (nameB_long s h12)
    go_enter Tryd.func33, Tryd.ntmps33
    go_wp2
    go_ret
    exact ⟨by rw [hN.out]; rfl, rfl⟩
  have hp : 0 < s.size := by omega
  have h12' : s.size ≤ 12 := by omega
  clear h0 h12
  have hp' : 0 < (bs s).length := by rw [HL.out]; exact hp
  cases hlo : lowB (s[0].toNat : Int)
  · have HLo := Lib.hid hlo
    clear hlo
    have hN := Lib.hid (nameB_no (bs s) hp' HLo.out)
    go_enter Tryd.func33, Tryd.ntmps33
    go_wp2_with (go_at_call 41; refine (rletter_any _ false HLo.out _).mono ?_; rintro e w' ⟨rfl, rfl⟩)
    go_ret
    exact ⟨by rw [hN.out]; rfl, rfl⟩
  have HLo := Lib.hid hlo
  clear hlo
  have hN := Lib.hid (nameB_ok (bs s) hp' (by rw [HL.out]; exact h12') HLo.out)
  go_enter Tryd.func33, Tryd.ntmps33
  go_wp2_with (go_at_call 41; refine (rletter_any _ true HLo.out _).mono ?_; rintro e w' ⟨rfl, rfl⟩)
  go_loop [3] (fun i => ∃ k : Nat, k ≤ s.size ∧ i = .int .i64 k ∧ Hid (nameB (bs s) = okW (bs s) k)) (fun i => s.size - (intOf i).toNat)
  case atStart => exact ⟨0, Nat.zero_le _, rfl, hN⟩
  case round =>
    clear hN HLo
    obtain ⟨k, hk, rfl, hw⟩ := hrel
    by_cases hlt : k < s.size
    · have hlt' : k < (bs s).length := by rw [HL.out]; exact hlt
      have hst := Lib.hid (okW_step (bs s) k hlt')
      cases hlo : lowB (s[k].toNat : Int)
      · have HLo := Lib.hid hlo
        clear hlo
        cases hdi : digB (s[k].toNat : Int)
        · have HDi := Lib.hid hdi
          clear hdi
          have hfin : nameB (bs s) = false := by
            have lo : low ((bs s)[k]'hlt') = false := HLo.out
            have di : dig ((bs s)[k]'hlt') = false := HDi.out
            rw [hw.out, hst.out, lo, di]; rfl
          have HF := Lib.hid hfin
          clear hfin hw hst
          go_wp2_with (first | (go_at_call 41; refine (rletter_any _ false HLo.out _).mono ?_; rintro e w' ⟨rfl, rfl⟩) | (go_at_call 42; refine (rdigit_any _ false HDi.out _).mono ?_; rintro e w' ⟨rfl, rfl⟩))
          go_ret
          exact ⟨by rw [HF.out]; rfl, rfl⟩
        · have HDi := Lib.hid hdi
          clear hdi
          have hnext : nameB (bs s) = okW (bs s) (k + 1) := by
            have di : dig ((bs s)[k]'hlt') = true := HDi.out
            rw [hw.out, hst.out, di]; simp
          have HN := Lib.hid hnext
          clear hnext hw hst
          go_wp2_with (first | (go_at_call 41; refine (rletter_any _ false HLo.out _).mono ?_; rintro e w' ⟨rfl, rfl⟩) | (go_at_call 42; refine (rdigit_any _ true HDi.out _).mono ?_; rintro e w' ⟨rfl, rfl⟩))
          go_round
          case rel => exact ⟨k + 1, by omega, by go_num, HN⟩
          case measure => simp [intOf]; omega
      · have HLo := Lib.hid hlo
        clear hlo
        have hnext : nameB (bs s) = okW (bs s) (k + 1) := by
          have lo : low ((bs s)[k]'hlt') = true := HLo.out
          rw [hw.out, hst.out, lo]; simp
        have HN := Lib.hid hnext
        clear hnext hw hst
        go_wp2_with (first | (go_at_call 41; refine (rletter_any _ true HLo.out _).mono ?_; rintro e w' ⟨rfl, rfl⟩))
        go_round
        case rel => exact ⟨k + 1, by omega, by go_num, HN⟩
        case measure => simp [intOf]; omega
    · have hfin : nameB (bs s) = true := by
        rw [hw.out, okW_end _ _ (by rw [HL.out]; omega)]
      have HF := Lib.hid hfin
      clear hfin hw
      go_wp2
      go_ret
      exact ⟨by rw [HF.out]; rfl, rfl⟩

end Go.Proofs.YtaabhlkhddkglaaDoor
