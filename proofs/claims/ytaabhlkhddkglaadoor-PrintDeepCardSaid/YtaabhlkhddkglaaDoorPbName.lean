/- The parser on one name: a token that is a name and no keyword is an expression. No condition. -/
import Derived.Test.YtaabhlkhddkglaaDoorPbPush
import Derived.Test.YtaabhlkhddkglaaDoorShelf
namespace Go.Proofs.YtaabhlkhddkglaaDoor
open Go.RowKit
set_option linter.unusedVariables false
set_option linter.unusedSimpArgs false
attribute [local go_sem] y_undef
def kwNames : List ByteArray := [⟨#[114, 101, 115, 111, 117, 114, 99, 101]⟩, ⟨#[115, 104, 97, 114, 101, 100]⟩, ⟨#[116, 97, 115, 107]⟩, ⟨#[112, 101, 114, 105, 111, 100]⟩, ⟨#[100, 101, 97, 100, 108, 105, 110, 101]⟩, ⟨#[112, 114, 105, 111, 114, 105, 116, 121]⟩, ⟨#[106, 105, 116, 116, 101, 114]⟩, ⟨#[105, 110, 112, 117, 116]⟩,
  ⟨#[118, 97, 114]⟩, ⟨#[97, 114, 114, 97, 121]⟩, ⟨#[109, 111, 100, 101]⟩, ⟨#[110, 101, 118, 101, 114]⟩, ⟨#[98, 111, 100, 121]⟩, ⟨#[101, 110, 100]⟩, ⟨#[105, 102]⟩, ⟨#[108, 97, 98, 101, 108]⟩, ⟨#[101, 108, 115, 101]⟩, ⟨#[119, 104, 105, 108, 101]⟩, ⟨#[109, 97, 120]⟩, ⟨#[108, 111, 99, 107]⟩]
/-- A text that is no keyword. -/
def NoKw (s : ByteArray) : Prop := ∀ x ∈ kwNames, (s.data.toList == x.data.toList) = false
set_option maxRecDepth 100000 in
set_option maxHeartbeats 2000000 in
theorem keyword_no (s : ByteArray) (h : NoKw s) (w : World) : Calls Tryd.prog 79 #[.string s] w fun e w' => e = .returned (.bool false) ∧ w' = w := by
  have e0 : (s.toList == [114, 101, 115, 111, 117, 114, 99, 101]) = false := by rw [Lib.toList_data]; exact h ⟨#[114, 101, 115, 111, 117, 114, 99, 101]⟩ (by simp [kwNames])
  have e1 : (s.toList == [115, 104, 97, 114, 101, 100]) = false := by rw [Lib.toList_data]; exact h ⟨#[115, 104, 97, 114, 101, 100]⟩ (by simp [kwNames])
  have e2 : (s.toList == [116, 97, 115, 107]) = false := by rw [Lib.toList_data]; exact h ⟨#[116, 97, 115, 107]⟩ (by simp [kwNames])
  have e3 : (s.toList == [112, 101, 114, 105, 111, 100]) = false := by rw [Lib.toList_data]; exact h ⟨#[112, 101, 114, 105, 111, 100]⟩ (by simp [kwNames])
  have e4 : (s.toList == [100, 101, 97, 100, 108, 105, 110, 101]) = false := by rw [Lib.toList_data]; exact h ⟨#[100, 101, 97, 100, 108, 105, 110, 101]⟩ (by simp [kwNames])
  have e5 : (s.toList == [112, 114, 105, 111, 114, 105, 116, 121]) = false := by rw [Lib.toList_data]; exact h ⟨#[112, 114, 105, 111, 114, 105, 116, 121]⟩ (by simp [kwNames])
  have e6 : (s.toList == [106, 105, 116, 116, 101, 114]) = false := by rw [Lib.toList_data]; exact h ⟨#[106, 105, 116, 116, 101, 114]⟩ (by simp [kwNames])
  have e7 : (s.toList == [105, 110, 112, 117, 116]) = false := by rw [Lib.toList_data]; exact h ⟨#[105, 110, 112, 117, 116]⟩ (by simp [kwNames])
  have e8 : (s.toList == [118, 97, 114]) = false := by rw [Lib.toList_data]; exact h ⟨#[118, 97, 114]⟩ (by simp [kwNames])
  have e9 : (s.toList == [97, 114, 114, 97, 121]) = false := by rw [Lib.toList_data]; exact h ⟨#[97, 114, 114, 97, 121]⟩ (by simp [kwNames])
  have e10 : (s.toList == [109, 111, 100, 101]) = false := by rw [Lib.toList_data]; exact h ⟨#[109, 111, 100, 101]⟩ (by simp [kwNames])
  have e11 : (s.toList == [110, 101, 118, 101, 114]) = false := by rw [Lib.toList_data]; exact h ⟨#[110, 101, 118, 101, 114]⟩ (by simp [kwNames])
  have e12 : (s.toList == [98, 111, 100, 121]) = false := by rw [Lib.toList_data]; exact h ⟨#[98, 111, 100, 121]⟩ (by simp [kwNames])
  have e13 : (s.toList == [101, 110, 100]) = false := by rw [Lib.toList_data]; exact h ⟨#[101, 110, 100]⟩ (by simp [kwNames])
  have e14 : (s.toList == [105, 102]) = false := by rw [Lib.toList_data]; exact h ⟨#[105, 102]⟩ (by simp [kwNames])
  have e15 : (s.toList == [108, 97, 98, 101, 108]) = false := by rw [Lib.toList_data]; exact h ⟨#[108, 97, 98, 101, 108]⟩ (by simp [kwNames])
  have e16 : (s.toList == [101, 108, 115, 101]) = false := by rw [Lib.toList_data]; exact h ⟨#[101, 108, 115, 101]⟩ (by simp [kwNames])
  have e17 : (s.toList == [119, 104, 105, 108, 101]) = false := by rw [Lib.toList_data]; exact h ⟨#[119, 104, 105, 108, 101]⟩ (by simp [kwNames])
  have e18 : (s.toList == [109, 97, 120]) = false := by rw [Lib.toList_data]; exact h ⟨#[109, 97, 120]⟩ (by simp [kwNames])
  have e19 : (s.toList == [108, 111, 99, 107]) = false := by rw [Lib.toList_data]; exact h ⟨#[108, 111, 99, 107]⟩ (by simp [kwNames])
  clear h
  go_enter Tryd.func79, Tryd.ntmps79
  go_wp2
  go_ret
  exact ⟨rfl, rfl⟩
theorem clone_any (s : ByteArray) (hs : s.size ≤ 281474976710656) (w : World) : Calls Tryd.prog 21 #[.string s] w fun e w' => e = .returned (.string s) ∧ Below w.heap.size w w' := by
  have hC := Lib.hid (Tryd.stringslite_Clone s)
  go_enter Tryd.func21, Tryd.ntmps21
  go_wp2_with (go_at_call 32; refine (hC.out _ hs).mono ?_; rintro e w' ⟨rfl, hb⟩)
  go_ret
  exact ⟨rfl, hb⟩
/-- A token as a value. -/
abbrev tkV (k n l : Int) (s : ByteArray) : Value := .agg #[.int .i64 k, .int .i64 n, .int .i64 l, .string s]
theorem pnamed_any (n l : Int) (s : ByteArray) (h : NoKw s) (w : World) : Calls Tryd.prog 74 #[tkV 1 n l s] w fun e w' => e = .returned (.bool true) ∧ Below w.heap.size w w' := by
  have hb := (Below.refl w.heap.size w).alloc (Nat.le_refl _) (.cells #[.int .i64 1, .int .i64 n, .int .i64 l, .string s] 61)
  go_enter Tryd.func74, Tryd.ntmps74
  go_wp2_with (go_at_call 79; refine (keyword_no s h _).mono ?_; rintro e w' ⟨rfl, rfl⟩)
  go_ret
  exact ⟨rfl, hb⟩
section
variable {base B n m : Nat} {vp vo : Value} {xs ys : List Value} {br : Int} {en dp : Bool} {ln : Int}
theorem whole_any (w : World) (hs : Bs base B vp n xs vo m ys br en dp ln w) : Calls Tryd.prog 54 #[.pointer (some ⟨B, 0, none⟩)] w fun e w' => e = .returned (.bool (en && decide (br = 0))) ∧ Below w.heap.size w w' := by
  obtain ⟨_, _, c6, c7, _, _, _⟩ := hs.1.cell
  cases en
  · go_enter Tryd.func54, Tryd.ntmps54
    go_wp2
    go_ret
    exact ⟨by simp, Below.refl _ _⟩
  · by_cases h0 : br = 0
    · have e0 : (br == 0) = true := by simp [h0]
      have e1 : decide (br = 0) = true := by simp [h0]
      rw [e1]
      clear h0 e1
      go_enter Tryd.func54, Tryd.ntmps54
      go_wp2
      go_ret
      exact ⟨by simp [e0], Below.refl _ _⟩
    · have e0 : (br == 0) = false := by simp [h0]
      have e1 : decide (br = 0) = false := by simp [h0]
      rw [e1]
      clear h0 e1
      go_enter Tryd.func54, Tryd.ntmps54
      go_wp2
      go_ret
      exact ⟨by simp [e0], Below.refl _ _⟩
/-- Nothing is open. -/
theorem top0_any {c : Nat} {A : Option Addr} (w : World) (hs : Bs base B vp n xs (.slice A 0 c) 0 ys br en dp ln w) : Calls Tryd.prog 69 #[.pointer (some ⟨B, 0, none⟩)] w fun e w' => e = .returned (.agg #[.int .i64 0, .int .i64 0, .string ⟨#[]⟩, .string ⟨#[]⟩]) ∧ Below w.heap.size w w' := by
  obtain ⟨_, c5, _⟩ := hs.1.cell
  have hlt := hs.1.lt
  have hb := (Below.refl w.heap.size w).alloc (Nat.le_refl _) (.cells #[.int .i64 0, .int .i64 0, .string ⟨#[]⟩, .string ⟨#[]⟩] 103)
  go_enter Tryd.func69, Tryd.ntmps69
  go_wp2
  refine bodyPost_ret (v := .agg #[.int .i64 0, .int .i64 0, .string ⟨#[]⟩, .string ⟨#[]⟩]) ?_ rfl ⟨rfl, hb⟩
  simp [results, Tryd.results69, go_sem]
set_option maxRecDepth 100000 in
theorem build0_any {c : Nat} {A : Option Addr} (l : Int) (hl : 0 < l) (w : World) (hs : Bs base B vp n xs (.slice A 0 c) 0 ys br en dp ln w) : Calls Tryd.prog 58 #[.pointer (some ⟨B, 0, none⟩), .int .i64 l] w fun e w' => e = .returned (.bool false) ∧ Below w.heap.size w w' := by
  have HT := Lib.hid (top0_any w hs)
  have hl' : ¬ l ≤ 0 := by omega
  have hfd : ∀ w : World, (Instr.field 103 (.agg #[.int .i64 0, .int .i64 0, .string ⟨#[]⟩, .string ⟨#[]⟩]) 0).run Tryd.prog w = .ok (.int .i64 0) w := fun _ => by kernel_rfl
  clear hs
  go_enter Tryd.func58, Tryd.ntmps58
  go_wp2
  refine wp_loop_rounds 1 ?_
  rw [rounds_succ]
  go_wp2_with (go_at_call 69; refine HT.out.mono ?_; rintro e w' ⟨rfl, hb⟩)
  go_ret
  exact ⟨rfl, hb⟩
end
end Go.Proofs.YtaabhlkhddkglaaDoor
