/- The token with which a text begins, as package token finds it: what it answers. -/
import Derived.Test.YtbppfhlpielpcaaDoorTkPbs
import Derived.Test.YtbppfhlpielpcaaDoorShelf
import Derived.Below
import Derived.Maps.Own
import Derived.Maps.OwnOps
import Derived.Maps.Views
import Derived.WalkLawsBesides
namespace Go.Proofs.YtbppfhlpielpcaaDoor
open Go.RowKit Go.Maps Tk
set_option linter.unusedVariables false
set_option maxRecDepth 100000

/-! ### Values -/
def cells (t : Tok) : List Value := [.int .i64 t.kind, .int .i64 t.num, .int .i64 t.line, .string (mk t.text)]
def aggV (t : Tok) : Value := .agg #[.int .i64 t.kind, .int .i64 t.num, .int .i64 t.line, .string (mk t.text)]
def zeroTok : Tok := ⟨0, 0, 0, []⟩
def firstV (r : Option (Tok × Nat)) : Value :=
  match r with
  | none => .tuple #[aggV zeroTok, .int .i64 0]
  | some (t, k) => .tuple #[aggV t, .int .i64 k]
theorem mk_bs (s : ByteArray) : mk (bs s) = s := Lib.mk_data s
theorem extract_mk (s : ByteArray) (k : Nat) : s.extract 0 k = mk ((bs s).take k) := by
  rw [Lib.extract_eq]; simp [mk, bs]
theorem bs_mk (l : List UInt8) : bs (mk l) = l := rfl
theorem bs_from (s : ByteArray) (k : Nat) : bs (s.extract k s.size) = (bs s).drop k := by
  unfold bs; rw [Lib.extract_data, List.take_of_length_le]
  have := bs_len s; unfold bs at this; rw [List.length_drop, this]; exact Nat.le_refl _
theorem bs_upto (s : ByteArray) (k : Nat) : bs (s.extract 0 k) = (bs s).take k := by rw [extract_mk, bs_mk]
theorem mk_size (l : List UInt8) : (mk l).size = l.length := rfl

/-! ### strings.Clone, and a token of a word -/
theorem clone_any (s : ByteArray) (hs : s.size ≤ 281474976710656) (w : World) : Calls Tryd.prog 59 #[.string s] w fun e w' => e = .returned (.string s) ∧ Below w.heap.size w w' := by
  have hC := Lib.hid (Tryd.stringslite_Clone s)
  go_enter Tryd.func59, Tryd.ntmps59
  go_wp2_with (go_at_call 73; refine (hC.out _ hs).mono ?_; rintro e w' ⟨rfl, hb⟩)
  go_ret
  exact ⟨rfl, hb⟩
theorem size_alloc (w : World) (o : Obj) : (w.alloc o).heap.size = w.heap.size + 1 := by simp
theorem below_in {w w1 : World} {o : Obj} (h : Below (w.alloc o).heap.size (w.alloc o) w1) : Below w.heap.size w w1 :=
  ((Below.refl _ w).alloc (Nat.le_refl _) o).trans (h.mono (by simp))
theorem bcell {W w1 : World} (hb : Below W.heap.size W w1) : (∀ b o, b < W.heap.size → w1.cell? ⟨b, o, none⟩ = W.cell? ⟨b, o, none⟩) ∧ (∀ b o, b < W.heap.size → w1.frozen? ⟨b, o, none⟩ = W.frozen? ⟨b, o, none⟩) :=
  ⟨fun b o h => hb.cell (p := ⟨b, o, none⟩) h, fun b o h => hb.frozen (p := ⟨b, o, none⟩) h⟩
theorem below_set4 {w w1 : World} {g : Nat} (h : Below w.heap.size w w1) (hg : w.heap.size ≤ g) (a b c d : Value) :
    Below w.heap.size w ((((w1.setCell ⟨g, 0, none⟩ a).setCell ⟨g, 1, none⟩ b).setCell ⟨g, 2, none⟩ c).setCell ⟨g, 3, none⟩ d) :=
  (((h.setCell hg _).setCell hg _).setCell hg _).setCell hg _
theorem worded_any (kind : Int) (s : ByteArray) (hs : s.size ≤ 281474976710656) (w : World) :
    Calls Tryd.prog 48 #[.int .i64 kind, .string s] w fun e w' => e = .returned (aggV ⟨kind, 0, 0, bs s⟩) ∧ Below w.heap.size w w' := by
  have hM := Lib.hid (mk_bs s)
  go_enter Tryd.func48, Tryd.ntmps48
  go_wp2_with fail
  refine (clone_any s hs _).mono ?_
  rintro e w1 ⟨rfl, hb⟩
  have hb0 := below_in hb
  obtain ⟨hc, hf⟩ := bcell hb
  simp only [size_alloc] at hc hf
  have hz : w.heap.size + 1 ≤ w1.heap.size := by have := hb.size; simpa using this
  clear hb
  go_wp2
  refine bodyPost_ret (v := aggV ⟨kind, 0, 0, bs s⟩) ?_ rfl ⟨rfl, below_set4 hb0 (Nat.le_refl _) _ _ _ _⟩
  simp [results, Tryd.results48, go_sem, aggV, hM.out, hc]

/-! ### A name -/
theorem ws_take (f : Bool) (l : List UInt8) : ws f (l.take (ws f l)) = ws f l := by
  induction l generalizing f with
  | nil => simp [ws]
  | cons c r ih =>
    by_cases h : (low c || (!f && dig c)) = true
    · have e : ws f (c :: r) = ws false r + 1 := by rw [ws, if_pos h]; omega
      rw [e, List.take_succ_cons, ws, if_pos h, ih]; omega
    · have e : ws f (c :: r) = 0 := by rw [ws, if_neg h]
      rw [e]; rfl
theorem ws_pos (l : List UInt8) (h : 0 < l.length) (hl : low l[0] = true) : 1 ≤ ws true l := by
  match l, h, hl with
  | c :: r, _, hl =>
    have hl : low c = true := hl
    rw [ws, if_pos (by simp [hl])]; omega
theorem name_cut (l : List UInt8) (h : 0 < l.length) (hl : low l[0] = true) : nameB (l.take (ws true l)) = decide (ws true l ≤ 12) := by
  have h1 := ws_pos l h hl
  have h2 := ws_le true l
  have hlen : (l.take (ws true l)).length = ws true l := by rw [List.length_take]; omega
  have hne : l.take (ws true l) ≠ [] := fun e => by rw [e] at hlen; simp at hlen; omega
  unfold nameB
  rw [hlen, ws_take]
  simp [hne]
theorem first_name (l : List UInt8) (h : 0 < l.length) (hl : low l[0] = true) :
    first l = if ws true l ≤ 12 then some (⟨1, 0, 0, l.take (ws true l)⟩, ws true l) else none := by
  match l, h, hl with
  | c :: r, _, hl =>
    have hl : low c = true := hl
    unfold first
    simp only
    rw [if_pos hl]
set_option maxHeartbeats 400000 in
theorem firstName_any (s : ByteArray) (hs : s.size ≤ 281474976710656) (h0 : 0 < s.size) (hl : lowB ((s[0]'h0).toNat : Int) = true) (w : World) :
    Calls Tryd.prog 33 #[.string s] w fun e w' => e = .returned (firstV (first (bs s))) ∧ Below w.heap.size w w' := by
  have h0' : 0 < (bs s).length := by rw [bs_len]; exact h0
  have hl' : low ((bs s)[0]'h0') = true := hl
  have hF := first_name (bs s) h0' hl'
  have hC := name_cut (bs s) h0' hl'
  have hle := ws_le true (bs s)
  have hws := wordSize_any s (by unfold maxLen; omega)
  rw [bs_len] at hle
  generalize hn : ws true (bs s) = n at hF hC hle hws
  have hN := name_any (s.extract 0 n) (by unfold maxLen; have := Lib.size_eq (s.extract 0 n); rw [this, Lib.extract_data, List.length_take]; omega)
  rw [bs_upto, hC] at hN
  have hW := worded_any 1 (s.extract 0 n) (by have := Lib.size_eq (s.extract 0 n); rw [this, Lib.extract_data, List.length_take]; omega)
  rw [bs_upto] at hW
  have HF := Lib.hid hF
  have HW := Lib.hid hW
  have HN := Lib.hid hN
  have HS := Lib.hid hws
  clear hF hW hN hws hC hn hl hl' h0'
  by_cases h12 : n ≤ 12
  · have hb : decide (n ≤ 12) = true := by simpa using h12
    have HB := Lib.hid hb
    clear hb
    go_enter Tryd.func33, Tryd.ntmps33
    go_wp2_with fail
    refine (HS.out _).mono ?_
    rintro e w' ⟨rfl, rfl⟩
    go_wp2_with fail
    refine (HN.out _).mono ?_
    rintro e w' ⟨he, rfl⟩
    rw [HB.out] at he
    subst he
    go_wp2_with fail
    refine (HW.out _).mono ?_
    rintro e w1 ⟨rfl, hb⟩
    have hb0 := below_in hb
    obtain ⟨hc, hf⟩ := bcell hb
    simp only [size_alloc] at hc hf
    have hz : w.heap.size + 1 ≤ w1.heap.size := by have := hb.size; simpa using this
    clear hb
    unfold aggV
    go_wp2
    refine bodyPost_ret (v := firstV (first (bs s))) ?_ rfl ⟨rfl, below_set4 hb0 (Nat.le_refl _) _ _ _ _⟩
    rw [HF.out, if_pos h12]
    simp [results, Tryd.results33, go_sem, firstV, aggV, hc]
  · have hb : decide (n ≤ 12) = false := by simpa using h12
    have HB := Lib.hid hb
    clear hb
    go_enter Tryd.func33, Tryd.ntmps33
    go_wp2_with fail
    refine (HS.out _).mono ?_
    rintro e w' ⟨rfl, rfl⟩
    go_wp2_with fail
    refine (HN.out _).mono ?_
    rintro e w' ⟨he, rfl⟩
    rw [HB.out] at he
    subst he
    go_wp2
    refine bodyPost_ret (v := firstV (first (bs s))) ?_ rfl ⟨rfl, ?_⟩
    · rw [HF.out, if_neg h12]
      simp [results, Tryd.results33, go_sem, firstV, aggV, zeroTok]
      rfl
    · exact (Below.refl _ w).alloc (Nat.le_refl _) _
end Go.Proofs.YtbppfhlpielpcaaDoor
