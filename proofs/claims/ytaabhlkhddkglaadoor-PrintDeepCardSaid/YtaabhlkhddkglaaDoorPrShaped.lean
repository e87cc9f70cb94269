/- print.shapedExpr. No condition. -/
import Derived.Test.YtaabhlkhddkglaaDoorPrShape
import Derived.Test.YtaabhlkhddkglaaDoorPrNamed
namespace Go.Proofs.YtaabhlkhddkglaaDoor
open Go.RowKit Tk
set_option linter.unusedVariables false
set_option linter.unusedSimpArgs false
attribute [local go_sem] y_undef
/-- The shape of an expression. -/
def shB (k n : Int) (s : ByteArray) (o : Int) (l : Nat) : Bool :=
  if k = 1 then sgB n && (s.size == 0 && (o == 0 && l == 0))
  else if k = 2 then nmB s && (n == 0 && (o == 0 && l == 0))
  else if k = 3 then nmB s && (n == 0 && (o == 0 && l == 1))
  else if k = 4 then (sgnB o).size != 0 && (n == 0 && (s.size == 0 && l == 2))
  else false
/-- An expression in a box. -/
def Ex5 (b : Nat) (k n o : Int) (s : ByteArray) (A : Option Addr) (l c : Nat) (w : World) : Prop := b < w.heap.size ∧ w.cell? ⟨b, 0, none⟩ = some (.int .i64 k) ∧ w.cell? ⟨b, 1, none⟩ = some (.int .i64 n) ∧ w.cell? ⟨b, 2, none⟩ = some (.string s) ∧ w.cell? ⟨b, 3, none⟩ = some (.int .i64 o) ∧ w.cell? ⟨b, 4, none⟩ = some (.slice A l c)
theorem Ex5.below {b N : Nat} {k n o : Int} {s : ByteArray} {A : Option Addr} {l c : Nat} {w w' : World} (h : Ex5 b k n o s A l c w) (hb : Below N w w') (hN : b < N) : Ex5 b k n o s A l c w' :=
  ⟨Nat.lt_of_lt_of_le h.1 hb.size, (hb.cell (p := ⟨b, 0, none⟩) hN).trans h.2.1, (hb.cell (p := ⟨b, 1, none⟩) hN).trans h.2.2.1, (hb.cell (p := ⟨b, 2, none⟩) hN).trans h.2.2.2.1, (hb.cell (p := ⟨b, 3, none⟩) hN).trans h.2.2.2.2.1, (hb.cell (p := ⟨b, 4, none⟩) hN).trans h.2.2.2.2.2⟩
theorem Ex5.new (k n o : Int) (s : ByteArray) (A : Option Addr) (l c : Nat) (w : World) : Ex5 w.heap.size k n o s A l c (w.alloc (.cells #[.int .i64 k, .int .i64 n, .string s, .int .i64 o, .slice A l c] 26)) := ⟨by simp, by simp, by simp, by simp, by simp, by simp⟩
theorem size0 {s : ByteArray} (h : s.size = 0) : s = ⟨#[]⟩ := ByteArray.ext (Array.eq_empty_of_size_eq_zero h)
theorem notEmpty {s : ByteArray} (h : ¬ s.size = 0) : s.toList.isEmpty = false := by
  cases hq : s.toList with
  | nil => rw [Lib.toList_data] at hq; have := bs_len s; unfold bs at this; rw [hq] at this; simp at this; omega
  | cons a b => rfl
set_option maxRecDepth 100000 in
set_option maxHeartbeats 4000000 in
theorem shaped1 (n o : Int) (s : ByteArray) (A : Option Addr) (l c : Nat) (w : World) (hs : s.size ≤ maxLen) (ho : -9223372036854775808 ≤ o ∧ o ≤ 9223372036854775807) :
    Calls Tryd.prog 19 #[exPV 1 n s o A l c] w fun e u => e = .returned (.bool (shB 1 n s o l)) ∧ Below w.heap.size w u := by
  rcases hc : sgB n with _ | _
  · have hr : shB 1 n s o l = false := by simp [shB, hc]
    rw [hr]
    clear hr
    have HB0 := Lib.hid ((Below.refl w.heap.size w).alloc (Nat.le_refl _) (.cells #[.int .i64 1, .int .i64 n, .string s, .int .i64 o, .slice A l c] 26))
    have HX := Lib.hid (Ex5.new 1 n o s A l c w)
    have HC := Lib.hid (signed_any n (w.heap.size + 1) ((w.alloc (.cells #[.int .i64 1, .int .i64 n, .string s, .int .i64 o, .slice A l c] 26)).alloc (.cells #[.int .i64 n] 3)) (by simp) (by simp))
    rw [hc] at HC
    (try clear q1); (try clear q2); (try clear q3); (try clear h1); (try clear h2); (try clear h3); clear hs ho
    go_enter Tryd.func19, Tryd.ntmps19
    go_wp2_with (go_at_call 29; refine HC.out.mono ?_; rintro e w1 ⟨rfl, hb1⟩; have HB1 := Lib.hid ((HB0.out.alloc HB0.out.size (.cells #[.int .i64 n] 3)).trans (hb1.mono (by simp <;> omega))); obtain ⟨hl1, x0, x1, x2, x3, x4⟩ := (HX.out.below ((Below.refl _ _).alloc (Nat.le_refl _) (.cells #[.int .i64 n] 3)) HX.out.1).below hb1 (by simp <;> omega); clear hb1)
    go_ret
    exact ⟨rfl, HB1.out⟩
  · skip
    by_cases h1 : s.size = 0
    · have q1 := h1
      by_cases h2 : o = 0
      · have q2 := h2
        by_cases h3 : l = 0
        · have q3 := h3
          have hr : shB 1 n s o l = true := by simp [shB, hc, h1, h2, h3]
          rw [hr]
          clear hr
          have es : s.toList.isEmpty = true := by obtain rfl := size0 h1; simp [Lib.toList_data]
          have eo : (o == 0) = true := by simp [h2]
          have el : ((l : Int) == 0) = true := by simp [h3]
          have HB0 := Lib.hid ((Below.refl w.heap.size w).alloc (Nat.le_refl _) (.cells #[.int .i64 1, .int .i64 n, .string s, .int .i64 o, .slice A l c] 26))
          have HX := Lib.hid (Ex5.new 1 n o s A l c w)
          have HC := Lib.hid (signed_any n (w.heap.size + 1) ((w.alloc (.cells #[.int .i64 1, .int .i64 n, .string s, .int .i64 o, .slice A l c] 26)).alloc (.cells #[.int .i64 n] 3)) (by simp) (by simp))
          rw [hc] at HC
          (try clear q1); (try clear q2); (try clear q3); (try clear h1); (try clear h2); (try clear h3); clear hs ho
          go_enter Tryd.func19, Tryd.ntmps19
          go_wp2_with (go_at_call 29; refine HC.out.mono ?_; rintro e w1 ⟨rfl, hb1⟩; have HB1 := Lib.hid ((HB0.out.alloc HB0.out.size (.cells #[.int .i64 n] 3)).trans (hb1.mono (by simp <;> omega))); obtain ⟨hl1, x0, x1, x2, x3, x4⟩ := (HX.out.below ((Below.refl _ _).alloc (Nat.le_refl _) (.cells #[.int .i64 n] 3)) HX.out.1).below hb1 (by simp <;> omega); clear hb1)
          go_ret
          exact ⟨rfl, HB1.out⟩
        · have hr : shB 1 n s o l = false := by simp [shB, hc, h1, h2, h3]
          rw [hr]
          clear hr
          have es : s.toList.isEmpty = true := by obtain rfl := size0 h1; simp [Lib.toList_data]
          have eo : (o == 0) = true := by simp [h2]
          have el : ((l : Int) == 0) = false := by simp; omega
          have HB0 := Lib.hid ((Below.refl w.heap.size w).alloc (Nat.le_refl _) (.cells #[.int .i64 1, .int .i64 n, .string s, .int .i64 o, .slice A l c] 26))
          have HX := Lib.hid (Ex5.new 1 n o s A l c w)
          have HC := Lib.hid (signed_any n (w.heap.size + 1) ((w.alloc (.cells #[.int .i64 1, .int .i64 n, .string s, .int .i64 o, .slice A l c] 26)).alloc (.cells #[.int .i64 n] 3)) (by simp) (by simp))
          rw [hc] at HC
          (try clear q1); (try clear q2); (try clear q3); (try clear h1); (try clear h2); (try clear h3); clear hs ho
          go_enter Tryd.func19, Tryd.ntmps19
          go_wp2_with (go_at_call 29; refine HC.out.mono ?_; rintro e w1 ⟨rfl, hb1⟩; have HB1 := Lib.hid ((HB0.out.alloc HB0.out.size (.cells #[.int .i64 n] 3)).trans (hb1.mono (by simp <;> omega))); obtain ⟨hl1, x0, x1, x2, x3, x4⟩ := (HX.out.below ((Below.refl _ _).alloc (Nat.le_refl _) (.cells #[.int .i64 n] 3)) HX.out.1).below hb1 (by simp <;> omega); clear hb1)
          go_ret
          exact ⟨rfl, HB1.out⟩
      · have hr : shB 1 n s o l = false := by simp [shB, hc, h1, h2]
        rw [hr]
        clear hr
        have es : s.toList.isEmpty = true := by obtain rfl := size0 h1; simp [Lib.toList_data]
        have eo : (o == 0) = false := by simp [h2]
        have HB0 := Lib.hid ((Below.refl w.heap.size w).alloc (Nat.le_refl _) (.cells #[.int .i64 1, .int .i64 n, .string s, .int .i64 o, .slice A l c] 26))
        have HX := Lib.hid (Ex5.new 1 n o s A l c w)
        have HC := Lib.hid (signed_any n (w.heap.size + 1) ((w.alloc (.cells #[.int .i64 1, .int .i64 n, .string s, .int .i64 o, .slice A l c] 26)).alloc (.cells #[.int .i64 n] 3)) (by simp) (by simp))
        rw [hc] at HC
        (try clear q1); (try clear q2); (try clear q3); (try clear h1); (try clear h2); (try clear h3); clear hs ho
        go_enter Tryd.func19, Tryd.ntmps19
        go_wp2_with (go_at_call 29; refine HC.out.mono ?_; rintro e w1 ⟨rfl, hb1⟩; have HB1 := Lib.hid ((HB0.out.alloc HB0.out.size (.cells #[.int .i64 n] 3)).trans (hb1.mono (by simp <;> omega))); obtain ⟨hl1, x0, x1, x2, x3, x4⟩ := (HX.out.below ((Below.refl _ _).alloc (Nat.le_refl _) (.cells #[.int .i64 n] 3)) HX.out.1).below hb1 (by simp <;> omega); clear hb1)
        go_ret
        exact ⟨rfl, HB1.out⟩
    · have hr : shB 1 n s o l = false := by simp [shB, hc, h1]
      rw [hr]
      clear hr
      have es := notEmpty h1
      have HB0 := Lib.hid ((Below.refl w.heap.size w).alloc (Nat.le_refl _) (.cells #[.int .i64 1, .int .i64 n, .string s, .int .i64 o, .slice A l c] 26))
      have HX := Lib.hid (Ex5.new 1 n o s A l c w)
      have HC := Lib.hid (signed_any n (w.heap.size + 1) ((w.alloc (.cells #[.int .i64 1, .int .i64 n, .string s, .int .i64 o, .slice A l c] 26)).alloc (.cells #[.int .i64 n] 3)) (by simp) (by simp))
      rw [hc] at HC
      (try clear q1); (try clear q2); (try clear q3); (try clear h1); (try clear h2); (try clear h3); clear hs ho
      go_enter Tryd.func19, Tryd.ntmps19
      go_wp2_with (go_at_call 29; refine HC.out.mono ?_; rintro e w1 ⟨rfl, hb1⟩; have HB1 := Lib.hid ((HB0.out.alloc HB0.out.size (.cells #[.int .i64 n] 3)).trans (hb1.mono (by simp <;> omega))); obtain ⟨hl1, x0, x1, x2, x3, x4⟩ := (HX.out.below ((Below.refl _ _).alloc (Nat.le_refl _) (.cells #[.int .i64 n] 3)) HX.out.1).below hb1 (by simp <;> omega); clear hb1)
      go_ret
      exact ⟨rfl, HB1.out⟩
set_option maxRecDepth 100000 in
set_option maxHeartbeats 4000000 in
theorem shaped2 (n o : Int) (s : ByteArray) (A : Option Addr) (l c : Nat) (w : World) (hs : s.size ≤ maxLen) (ho : -9223372036854775808 ≤ o ∧ o ≤ 9223372036854775807) :
    Calls Tryd.prog 19 #[exPV 2 n s o A l c] w fun e u => e = .returned (.bool (shB 2 n s o l)) ∧ Below w.heap.size w u := by
  have hN := Lib.hid (fun u => named_any s hs u)
  rcases hc : nmB s with _ | _
  · have hr : shB 2 n s o l = false := by simp [shB, hc]
    rw [hr]
    clear hr
    rw [hc] at hN
    have HB0 := Lib.hid ((Below.refl w.heap.size w).alloc (Nat.le_refl _) (.cells #[.int .i64 2, .int .i64 n, .string s, .int .i64 o, .slice A l c] 26))
    have HX := Lib.hid (Ex5.new 2 n o s A l c w)
    (try clear q1); (try clear q2); (try clear q3); (try clear h1); (try clear h2); (try clear h3); clear hs ho
    go_enter Tryd.func19, Tryd.ntmps19
    go_wp2_with (go_at_call 30; refine (hN.out _).mono ?_; rintro e w1 ⟨rfl, hb1⟩; have HB1 := Lib.hid (HB0.out.trans (hb1.mono HB0.out.size)); obtain ⟨hl1, x0, x1, x2, x3, x4⟩ := HX.out.below hb1 HX.out.1; clear hb1)
    go_ret
    exact ⟨rfl, HB1.out⟩
  · rw [hc] at hN
    by_cases h1 : n = 0
    · have q1 := h1
      by_cases h2 : o = 0
      · have q2 := h2
        by_cases h3 : l = 0
        · have q3 := h3
          have hr : shB 2 n s o l = true := by simp [shB, hc, h1, h2, h3]
          rw [hr]
          clear hr
          have en : (n == 0) = true := by simp [h1]
          have eo : (o == 0) = true := by simp [h2]
          have el : ((l : Int) == 0) = true := by simp [h3]
          have HB0 := Lib.hid ((Below.refl w.heap.size w).alloc (Nat.le_refl _) (.cells #[.int .i64 2, .int .i64 n, .string s, .int .i64 o, .slice A l c] 26))
          have HX := Lib.hid (Ex5.new 2 n o s A l c w)
          (try clear q1); (try clear q2); (try clear q3); (try clear h1); (try clear h2); (try clear h3); clear hs ho
          go_enter Tryd.func19, Tryd.ntmps19
          go_wp2_with (go_at_call 30; refine (hN.out _).mono ?_; rintro e w1 ⟨rfl, hb1⟩; have HB1 := Lib.hid (HB0.out.trans (hb1.mono HB0.out.size)); obtain ⟨hl1, x0, x1, x2, x3, x4⟩ := HX.out.below hb1 HX.out.1; clear hb1)
          go_ret
          exact ⟨rfl, HB1.out⟩
        · have hr : shB 2 n s o l = false := by simp [shB, hc, h1, h2, h3]
          rw [hr]
          clear hr
          have en : (n == 0) = true := by simp [h1]
          have eo : (o == 0) = true := by simp [h2]
          have el : ((l : Int) == 0) = false := by simp; omega
          have HB0 := Lib.hid ((Below.refl w.heap.size w).alloc (Nat.le_refl _) (.cells #[.int .i64 2, .int .i64 n, .string s, .int .i64 o, .slice A l c] 26))
          have HX := Lib.hid (Ex5.new 2 n o s A l c w)
          (try clear q1); (try clear q2); (try clear q3); (try clear h1); (try clear h2); (try clear h3); clear hs ho
          go_enter Tryd.func19, Tryd.ntmps19
          go_wp2_with (go_at_call 30; refine (hN.out _).mono ?_; rintro e w1 ⟨rfl, hb1⟩; have HB1 := Lib.hid (HB0.out.trans (hb1.mono HB0.out.size)); obtain ⟨hl1, x0, x1, x2, x3, x4⟩ := HX.out.below hb1 HX.out.1; clear hb1)
          go_ret
          exact ⟨rfl, HB1.out⟩
      · have hr : shB 2 n s o l = false := by simp [shB, hc, h1, h2]
        rw [hr]
        clear hr
        have en : (n == 0) = true := by simp [h1]
        have eo : (o == 0) = false := by simp [h2]
        have HB0 := Lib.hid ((Below.refl w.heap.size w).alloc (Nat.le_refl _) (.cells #[.int .i64 2, .int .i64 n, .string s, .int .i64 o, .slice A l c] 26))
        have HX := Lib.hid (Ex5.new 2 n o s A l c w)
        (try clear q1); (try clear q2); (try clear q3); (try clear h1); (try clear h2); (try clear h3); clear hs ho
        go_enter Tryd.func19, Tryd.ntmps19
        go_wp2_with (go_at_call 30; refine (hN.out _).mono ?_; rintro e w1 ⟨rfl, hb1⟩; have HB1 := Lib.hid (HB0.out.trans (hb1.mono HB0.out.size)); obtain ⟨hl1, x0, x1, x2, x3, x4⟩ := HX.out.below hb1 HX.out.1; clear hb1)
        go_ret
        exact ⟨rfl, HB1.out⟩
    · have hr : shB 2 n s o l = false := by simp [shB, hc, h1]
      rw [hr]
      clear hr
      have en : (n == 0) = false := by simp [h1]
      have HB0 := Lib.hid ((Below.refl w.heap.size w).alloc (Nat.le_refl _) (.cells #[.int .i64 2, .int .i64 n, .string s, .int .i64 o, .slice A l c] 26))
      have HX := Lib.hid (Ex5.new 2 n o s A l c w)
      (try clear q1); (try clear q2); (try clear q3); (try clear h1); (try clear h2); (try clear h3); clear hs ho
      go_enter Tryd.func19, Tryd.ntmps19
      go_wp2_with (go_at_call 30; refine (hN.out _).mono ?_; rintro e w1 ⟨rfl, hb1⟩; have HB1 := Lib.hid (HB0.out.trans (hb1.mono HB0.out.size)); obtain ⟨hl1, x0, x1, x2, x3, x4⟩ := HX.out.below hb1 HX.out.1; clear hb1)
      go_ret
      exact ⟨rfl, HB1.out⟩
set_option maxRecDepth 100000 in
set_option maxHeartbeats 4000000 in
theorem shaped3 (n o : Int) (s : ByteArray) (A : Option Addr) (l c : Nat) (w : World) (hs : s.size ≤ maxLen) (ho : -9223372036854775808 ≤ o ∧ o ≤ 9223372036854775807) :
    Calls Tryd.prog 19 #[exPV 3 n s o A l c] w fun e u => e = .returned (.bool (shB 3 n s o l)) ∧ Below w.heap.size w u := by
  have hN := Lib.hid (fun u => named_any s hs u)
  rcases hc : nmB s with _ | _
  · have hr : shB 3 n s o l = false := by simp [shB, hc]
    rw [hr]
    clear hr
    rw [hc] at hN
    have HB0 := Lib.hid ((Below.refl w.heap.size w).alloc (Nat.le_refl _) (.cells #[.int .i64 3, .int .i64 n, .string s, .int .i64 o, .slice A l c] 26))
    have HX := Lib.hid (Ex5.new 3 n o s A l c w)
    (try clear q1); (try clear q2); (try clear q3); (try clear h1); (try clear h2); (try clear h3); clear hs ho
    go_enter Tryd.func19, Tryd.ntmps19
    go_wp2_with (go_at_call 30; refine (hN.out _).mono ?_; rintro e w1 ⟨rfl, hb1⟩; have HB1 := Lib.hid (HB0.out.trans (hb1.mono HB0.out.size)); obtain ⟨hl1, x0, x1, x2, x3, x4⟩ := HX.out.below hb1 HX.out.1; clear hb1)
    go_ret
    exact ⟨rfl, HB1.out⟩
  · rw [hc] at hN
    by_cases h1 : n = 0
    · have q1 := h1
      by_cases h2 : o = 0
      · have q2 := h2
        by_cases h3 : l = 1
        · have q3 := h3
          have hr : shB 3 n s o l = true := by simp [shB, hc, h1, h2, h3]
          rw [hr]
          clear hr
          have en : (n == 0) = true := by simp [h1]
          have eo : (o == 0) = true := by simp [h2]
          have el : ((l : Int) == 1) = true := by simp [h3]
          have HB0 := Lib.hid ((Below.refl w.heap.size w).alloc (Nat.le_refl _) (.cells #[.int .i64 3, .int .i64 n, .string s, .int .i64 o, .slice A l c] 26))
          have HX := Lib.hid (Ex5.new 3 n o s A l c w)
          (try clear q1); (try clear q2); (try clear q3); (try clear h1); (try clear h2); (try clear h3); clear hs ho
          go_enter Tryd.func19, Tryd.ntmps19
          go_wp2_with (go_at_call 30; refine (hN.out _).mono ?_; rintro e w1 ⟨rfl, hb1⟩; have HB1 := Lib.hid (HB0.out.trans (hb1.mono HB0.out.size)); obtain ⟨hl1, x0, x1, x2, x3, x4⟩ := HX.out.below hb1 HX.out.1; clear hb1)
          go_ret
          exact ⟨rfl, HB1.out⟩
        · have hr : shB 3 n s o l = false := by simp [shB, hc, h1, h2, h3]
          rw [hr]
          clear hr
          have en : (n == 0) = true := by simp [h1]
          have eo : (o == 0) = true := by simp [h2]
          have el : ((l : Int) == 1) = false := by simp; omega
          have HB0 := Lib.hid ((Below.refl w.heap.size w).alloc (Nat.le_refl _) (.cells #[.int .i64 3, .int .i64 n, .string s, .int .i64 o, .slice A l c] 26))
          have HX := Lib.hid (Ex5.new 3 n o s A l c w)
          (try clear q1); (try clear q2); (try clear q3); (try clear h1); (try clear h2); (try clear h3); clear hs ho
          go_enter Tryd.func19, Tryd.ntmps19
          go_wp2_with (go_at_call 30; refine (hN.out _).mono ?_; rintro e w1 ⟨rfl, hb1⟩; have HB1 := Lib.hid (HB0.out.trans (hb1.mono HB0.out.size)); obtain ⟨hl1, x0, x1, x2, x3, x4⟩ := HX.out.below hb1 HX.out.1; clear hb1)
          go_ret
          exact ⟨rfl, HB1.out⟩
      · have hr : shB 3 n s o l = false := by simp [shB, hc, h1, h2]
        rw [hr]
        clear hr
        have en : (n == 0) = true := by simp [h1]
        have eo : (o == 0) = false := by simp [h2]
        have HB0 := Lib.hid ((Below.refl w.heap.size w).alloc (Nat.le_refl _) (.cells #[.int .i64 3, .int .i64 n, .string s, .int .i64 o, .slice A l c] 26))
        have HX := Lib.hid (Ex5.new 3 n o s A l c w)
        (try clear q1); (try clear q2); (try clear q3); (try clear h1); (try clear h2); (try clear h3); clear hs ho
        go_enter Tryd.func19, Tryd.ntmps19
        go_wp2_with (go_at_call 30; refine (hN.out _).mono ?_; rintro e w1 ⟨rfl, hb1⟩; have HB1 := Lib.hid (HB0.out.trans (hb1.mono HB0.out.size)); obtain ⟨hl1, x0, x1, x2, x3, x4⟩ := HX.out.below hb1 HX.out.1; clear hb1)
        go_ret
        exact ⟨rfl, HB1.out⟩
    · have hr : shB 3 n s o l = false := by simp [shB, hc, h1]
      rw [hr]
      clear hr
      have en : (n == 0) = false := by simp [h1]
      have HB0 := Lib.hid ((Below.refl w.heap.size w).alloc (Nat.le_refl _) (.cells #[.int .i64 3, .int .i64 n, .string s, .int .i64 o, .slice A l c] 26))
      have HX := Lib.hid (Ex5.new 3 n o s A l c w)
      (try clear q1); (try clear q2); (try clear q3); (try clear h1); (try clear h2); (try clear h3); clear hs ho
      go_enter Tryd.func19, Tryd.ntmps19
      go_wp2_with (go_at_call 30; refine (hN.out _).mono ?_; rintro e w1 ⟨rfl, hb1⟩; have HB1 := Lib.hid (HB0.out.trans (hb1.mono HB0.out.size)); obtain ⟨hl1, x0, x1, x2, x3, x4⟩ := HX.out.below hb1 HX.out.1; clear hb1)
      go_ret
      exact ⟨rfl, HB1.out⟩
set_option maxRecDepth 100000 in
set_option maxHeartbeats 4000000 in
theorem shaped4 (n o : Int) (s : ByteArray) (A : Option Addr) (l c : Nat) (w : World) (hs : s.size ≤ maxLen) (ho : -9223372036854775808 ≤ o ∧ o ≤ 9223372036854775807) :
    Calls Tryd.prog 19 #[exPV 4 n s o A l c] w fun e u => e = .returned (.bool (shB 4 n s o l)) ∧ Below w.heap.size w u := by
  obtain ⟨g, hg⟩ : ∃ g, sgnB o = g := ⟨_, rfl⟩
  have hN := Lib.hid (fun u => sign_any o ho u)
  rw [hg] at hN
  by_cases hc : g.size = 0
  · have hr : shB 4 n s o l = false := by simp [shB, hg, hc]
    rw [hr]
    clear hr
    obtain rfl := size0 hc
    have HB0 := Lib.hid ((Below.refl w.heap.size w).alloc (Nat.le_refl _) (.cells #[.int .i64 4, .int .i64 n, .string s, .int .i64 o, .slice A l c] 26))
    have HX := Lib.hid (Ex5.new 4 n o s A l c w)
    (try clear q1); (try clear q2); (try clear q3); (try clear h1); (try clear h2); (try clear h3); clear hs ho
    go_enter Tryd.func19, Tryd.ntmps19
    go_wp2_with (go_at_call 23; refine (hN.out _).mono ?_; rintro e w1 ⟨rfl, hb1⟩; have HB1 := Lib.hid (HB0.out.trans (hb1.mono HB0.out.size)); obtain ⟨hl1, x0, x1, x2, x3, x4⟩ := HX.out.below hb1 HX.out.1; clear hb1)
    go_ret
    exact ⟨rfl, HB1.out⟩
  · have eg := notEmpty hc
    by_cases h1 : n = 0
    · have q1 := h1
      by_cases h2 : s.size = 0
      · have q2 := h2
        by_cases h3 : l = 2
        · have q3 := h3
          have hr : shB 4 n s o l = true := by simp [shB, hg, hc, h1, h2, h3]
          rw [hr]
          clear hr
          have en : (n == 0) = true := by simp [h1]
          have es : s.toList.isEmpty = true := by obtain rfl := size0 h2; simp [Lib.toList_data]
          have el : ((l : Int) == 2) = true := by simp [h3]
          have HB0 := Lib.hid ((Below.refl w.heap.size w).alloc (Nat.le_refl _) (.cells #[.int .i64 4, .int .i64 n, .string s, .int .i64 o, .slice A l c] 26))
          have HX := Lib.hid (Ex5.new 4 n o s A l c w)
          (try clear q1); (try clear q2); (try clear q3); (try clear h1); (try clear h2); (try clear h3); clear hs ho
          go_enter Tryd.func19, Tryd.ntmps19
          go_wp2_with (go_at_call 23; refine (hN.out _).mono ?_; rintro e w1 ⟨rfl, hb1⟩; have HB1 := Lib.hid (HB0.out.trans (hb1.mono HB0.out.size)); obtain ⟨hl1, x0, x1, x2, x3, x4⟩ := HX.out.below hb1 HX.out.1; clear hb1)
          go_ret
          exact ⟨rfl, HB1.out⟩
        · have hr : shB 4 n s o l = false := by simp [shB, hg, hc, h1, h2, h3]
          rw [hr]
          clear hr
          have en : (n == 0) = true := by simp [h1]
          have es : s.toList.isEmpty = true := by obtain rfl := size0 h2; simp [Lib.toList_data]
          have el : ((l : Int) == 2) = false := by simp; omega
          have HB0 := Lib.hid ((Below.refl w.heap.size w).alloc (Nat.le_refl _) (.cells #[.int .i64 4, .int .i64 n, .string s, .int .i64 o, .slice A l c] 26))
          have HX := Lib.hid (Ex5.new 4 n o s A l c w)
          (try clear q1); (try clear q2); (try clear q3); (try clear h1); (try clear h2); (try clear h3); clear hs ho
          go_enter Tryd.func19, Tryd.ntmps19
          go_wp2_with (go_at_call 23; refine (hN.out _).mono ?_; rintro e w1 ⟨rfl, hb1⟩; have HB1 := Lib.hid (HB0.out.trans (hb1.mono HB0.out.size)); obtain ⟨hl1, x0, x1, x2, x3, x4⟩ := HX.out.below hb1 HX.out.1; clear hb1)
          go_ret
          exact ⟨rfl, HB1.out⟩
      · have hr : shB 4 n s o l = false := by simp [shB, hg, hc, h1, h2]
        rw [hr]
        clear hr
        have en : (n == 0) = true := by simp [h1]
        have es := notEmpty h2
        have HB0 := Lib.hid ((Below.refl w.heap.size w).alloc (Nat.le_refl _) (.cells #[.int .i64 4, .int .i64 n, .string s, .int .i64 o, .slice A l c] 26))
        have HX := Lib.hid (Ex5.new 4 n o s A l c w)
        (try clear q1); (try clear q2); (try clear q3); (try clear h1); (try clear h2); (try clear h3); clear hs ho
        go_enter Tryd.func19, Tryd.ntmps19
        go_wp2_with (go_at_call 23; refine (hN.out _).mono ?_; rintro e w1 ⟨rfl, hb1⟩; have HB1 := Lib.hid (HB0.out.trans (hb1.mono HB0.out.size)); obtain ⟨hl1, x0, x1, x2, x3, x4⟩ := HX.out.below hb1 HX.out.1; clear hb1)
        go_ret
        exact ⟨rfl, HB1.out⟩
    · have hr : shB 4 n s o l = false := by simp [shB, hg, hc, h1]
      rw [hr]
      clear hr
      have en : (n == 0) = false := by simp [h1]
      have HB0 := Lib.hid ((Below.refl w.heap.size w).alloc (Nat.le_refl _) (.cells #[.int .i64 4, .int .i64 n, .string s, .int .i64 o, .slice A l c] 26))
      have HX := Lib.hid (Ex5.new 4 n o s A l c w)
      (try clear q1); (try clear q2); (try clear q3); (try clear h1); (try clear h2); (try clear h3); clear hs ho
      go_enter Tryd.func19, Tryd.ntmps19
      go_wp2_with (go_at_call 23; refine (hN.out _).mono ?_; rintro e w1 ⟨rfl, hb1⟩; have HB1 := Lib.hid (HB0.out.trans (hb1.mono HB0.out.size)); obtain ⟨hl1, x0, x1, x2, x3, x4⟩ := HX.out.below hb1 HX.out.1; clear hb1)
      go_ret
      exact ⟨rfl, HB1.out⟩
set_option maxRecDepth 100000 in
theorem shaped_any (k n o : Int) (s : ByteArray) (A : Option Addr) (l c : Nat) (w : World) (hs : s.size ≤ maxLen) (ho : -9223372036854775808 ≤ o ∧ o ≤ 9223372036854775807) :
    Calls Tryd.prog 19 #[exPV k n s o A l c] w fun e u => e = .returned (.bool (shB k n s o l)) ∧ Below w.heap.size w u := by
  by_cases h1 : k = 1
  · subst h1; exact shaped1 n o s A l c w hs ho
  by_cases h2 : k = 2
  · subst h2; exact shaped2 n o s A l c w hs ho
  by_cases h3 : k = 3
  · subst h3; exact shaped3 n o s A l c w hs ho
  by_cases h4 : k = 4
  · subst h4; exact shaped4 n o s A l c w hs ho
  have hr : shB k n s o l = false := by simp [shB, h1, h2, h3, h4]
  rw [hr]
  have e1 : (k == 1) = false := by simp [h1]
  have e2 : (k == 2) = false := by simp [h2]
  have e3 : (k == 3) = false := by simp [h3]
  have e4 : (k == 4) = false := by simp [h4]
  have HB0 := Lib.hid ((Below.refl w.heap.size w).alloc (Nat.le_refl _) (.cells #[.int .i64 k, .int .i64 n, .string s, .int .i64 o, .slice A l c] 26))
  clear hr
  go_enter Tryd.func19, Tryd.ntmps19
  go_wp2
  go_ret
  exact ⟨rfl, HB0.out⟩
theorem asks_shB : Asks shB := fun k n o s a A c u hw => by
  obtain ⟨_, _, ho, hs, _⟩ := hw
  exact shaped_any k n o s A a.len c u hs ho
end Go.Proofs.YtaabhlkhddkglaaDoor
