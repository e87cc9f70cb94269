/- print.named, print.sign. No condition. -/
import Derived.Test.YtaabhlkhddkglaaDoorPbKw
namespace Go.Proofs.YtaabhlkhddkglaaDoor
open Go.RowKit Tk
set_option linter.unusedVariables false
set_option linter.unusedSimpArgs false
attribute [local go_sem] y_undef
/-- A name and no keyword. -/
def nmB (s : ByteArray) : Bool := nameB (bs s) && !isKw s
theorem name_size {s : ByteArray} (h : nameB (bs s) = true) : s.size ≤ 12 := by
  rcases Nat.lt_or_ge 12 s.size with h1 | h1
  · rw [nameB_long s h1] at h; cases h
  · exact h1
theorem name_not {s : ByteArray} (h : nameB (bs s) = true) (x : ByteArray) (hx : nameB (bs x) = false) : (s.data.toList == x.data.toList) = false := by
  rcases hq : (s.data.toList == x.data.toList) with _ | _
  · rfl
  · have he : s.data.toList = x.data.toList := by simpa using hq
    rw [byteArray_ext he, hx] at h
    cases h
set_option maxRecDepth 100000 in
theorem named_any (s : ByteArray) (hs : s.size ≤ maxLen) (w : World) : Calls Tryd.prog 30 #[.string s] w fun e w' => e = .returned (.bool (nmB s)) ∧ Below w.heap.size w w' := by
  have HN := Lib.hid (fun u => name_any s hs u)
  rcases h : nameB (bs s) with _ | _
  · have hr : nmB s = false := by simp [nmB, h]
    rw [hr]
    rw [h] at HN
    clear h hr
    go_enter Tryd.func30, Tryd.ntmps30
    go_wp2_with (go_at_call 38; refine (HN.out _).mono ?_; rintro e w1 ⟨rfl, rfl⟩)
    go_ret
    exact ⟨rfl, Below.refl _ _⟩
  · have hm := name_not h ⟨#[45]⟩ (by decide)
    have hp := name_not h ⟨#[40]⟩ (by decide)
    have h12 := name_size h
    have hb0 := Lib.hid ((Below.refl w.heap.size w).alloc (Nat.le_refl _) (.cells #[.int .i64 1, .int .i64 0, .int .i64 0, .string s] 61))
    have hT := Lib.hid (show Tk1 w.heap.size 1 0 0 s (w.alloc (.cells #[.int .i64 1, .int .i64 0, .int .i64 0, .string s] 61)) from ⟨by simp, by simp, by simp, by simp, by simp⟩)
    rw [h] at HN
    rcases hk : isKw s with _ | _
    · have hr : nmB s = true := by simp [nmB, h, hk]
      rw [hr]
      have HC := Lib.hid (expr_name (c := 1) (Nat.le_refl 1) 0 0 s _ hT.out (noKw hk) hm (by omega))
      clear h hr hm hp h12 hk hT
      go_enter Tryd.func30, Tryd.ntmps30
      go_wp2_with (first | (go_at_call 38; refine (HN.out _).mono ?_; rintro e w1 ⟨rfl, rfl⟩) | (go_at_call 39; refine HC.out.mono ?_; rintro e w1 ⟨rfl, hb1⟩; have HB1 := Lib.hid (hb0.out.trans (hb1.mono hb0.out.size)); clear hb1))
      go_ret
      exact ⟨rfl, HB1.out.alloc HB1.out.size _⟩
    · have hr : nmB s = false := by simp [nmB, h, hk]
      rw [hr]
      have HC := Lib.hid (expr_kw (c := 1) 0 0 s _ hT.out hk hm hp)
      clear h hr hm hp h12 hk hT
      go_enter Tryd.func30, Tryd.ntmps30
      go_wp2_with (first | (go_at_call 38; refine (HN.out _).mono ?_; rintro e w1 ⟨rfl, rfl⟩) | (go_at_call 39; refine HC.out.mono ?_; rintro e w1 ⟨rfl, hb1⟩; have HB1 := Lib.hid (hb0.out.trans (hb1.mono hb0.out.size)); clear hb1))
      go_ret
      exact ⟨rfl, HB1.out.alloc HB1.out.size _⟩
/-- The sign of an operator. -/
def sgnB : Int → ByteArray
  | 1 => ⟨#[43]⟩ | 2 => ⟨#[45]⟩ | 3 => ⟨#[42]⟩ | 4 => ⟨#[47]⟩ | 5 => ⟨#[37]⟩ | 6 => ⟨#[38]⟩ | 7 => ⟨#[124]⟩ | 8 => ⟨#[94]⟩ | 9 => ⟨#[60, 60]⟩ | 10 => ⟨#[62, 62]⟩ | 11 => ⟨#[60]⟩ | 12 => ⟨#[60, 61]⟩ | 13 => ⟨#[61, 61]⟩ | 14 => ⟨#[33, 61]⟩
  | _ => ⟨#[]⟩
set_option maxRecDepth 100000 in
set_option maxHeartbeats 8000000 in
theorem sign_any (o : Int) (ho : -9223372036854775808 ≤ o ∧ o ≤ 9223372036854775807) (w : World) : Calls Tryd.prog 23 #[.int .i64 o] w fun e w' => e = .returned (.string (sgnB o)) ∧ Below w.heap.size w w' := by
  rcases Int.lt_or_le o 0 with h | h
  · have hr : sgnB o = ⟨#[]⟩ := by
      unfold sgnB
      split <;> first | omega | rfl
    rw [hr]
    have hb := (Below.refl w.heap.size w).alloc (Nat.le_refl _) (.cells #[.string ⟨#[]⟩, .string ⟨#[43]⟩, .string ⟨#[45]⟩, .string ⟨#[42]⟩, .string ⟨#[47]⟩, .string ⟨#[37]⟩, .string ⟨#[38]⟩, .string ⟨#[124]⟩, .string ⟨#[94]⟩, .string ⟨#[60, 60]⟩, .string ⟨#[62, 62]⟩, .string ⟨#[60]⟩, .string ⟨#[60, 61]⟩, .string ⟨#[61, 61]⟩, .string ⟨#[33, 61]⟩] 55)
    clear hr ho
    go_enter Tryd.func23, Tryd.ntmps23
    go_wp2
    go_ret
    exact ⟨rfl, hb⟩
  · have hb := (Below.refl w.heap.size w).alloc (Nat.le_refl _) (.cells #[.string ⟨#[]⟩, .string ⟨#[43]⟩, .string ⟨#[45]⟩, .string ⟨#[42]⟩, .string ⟨#[47]⟩, .string ⟨#[37]⟩, .string ⟨#[38]⟩, .string ⟨#[124]⟩, .string ⟨#[94]⟩, .string ⟨#[60, 60]⟩, .string ⟨#[62, 62]⟩, .string ⟨#[60]⟩, .string ⟨#[60, 61]⟩, .string ⟨#[61, 61]⟩, .string ⟨#[33, 61]⟩] 55)
    rcases Int.lt_or_le o 15 with h2 | h2
    · have hc : o = 0 ∨ o = 1 ∨ o = 2 ∨ o = 3 ∨ o = 4 ∨ o = 5 ∨ o = 6 ∨ o = 7 ∨ o = 8 ∨ o = 9 ∨ o = 10 ∨ o = 11 ∨ o = 12 ∨ o = 13 ∨ o = 14 := by omega
      clear ho h h2
      rcases hc with rfl | rfl | rfl | rfl | rfl | rfl | rfl | rfl | rfl | rfl | rfl | rfl | rfl | rfl | rfl
      all_goals
        go_enter Tryd.func23, Tryd.ntmps23
        go_wp2
        go_ret
        exact ⟨rfl, hb⟩
    · have hr : sgnB o = ⟨#[]⟩ := by
        unfold sgnB
        split <;> first | omega | rfl
      have h' : ¬ o < 0 := by omega
      rw [hr]
      clear hr ho
      go_enter Tryd.func23, Tryd.ntmps23
      go_wp2
      go_ret
      exact ⟨rfl, hb⟩
end Go.Proofs.YtaabhlkhddkglaaDoor
