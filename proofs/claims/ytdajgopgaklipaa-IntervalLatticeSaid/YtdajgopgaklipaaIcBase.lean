/- The code of layer 7: its small functions (least, greatest, All, None, isWord, Valid, taken, span, one, places). No condition. -/
import Derived.Test.YtdajgopgaklipaaIvRefB
import Derived.Test.YtdajgopgaklipaaIvRefine
import Derived.Test.YtdajgopgaklipaaWdRef
import Derived.Test.YtdajgopgaklipaaStFresh
import Derived.LoopTactic
import Derived.Deep.RegionWith
namespace Go.Proofs.Ytdajgopgaklipaa
open Go.RowKit
set_option linter.unusedVariables false
set_option linter.unusedSimpArgs false
attribute [local go_sem] y_undef
/-- A slice of these numbers, in a block of its own. -/
def Sl (l : List Int) (v : Value) (u : World) : Prop := ∃ g : Nat, v = .slice (some ⟨g, 0, none⟩) l.length l.length ∧ g < u.heap.size ∧ ∀ k, k < l.length → u.cell? ⟨g, k, none⟩ = some (.int .i64 (l.getD k 0))
theorem Sl.below {l : List Int} {v : Value} {a b : World} (h : Sl l v a) (hb : Below a.heap.size a b) : Sl l v b := by
  obtain ⟨g, e, hg, hc⟩ := h
  exact ⟨g, e, Nat.lt_of_lt_of_le hg hb.size, fun k hk => (hb.cell (p := ⟨g, k, none⟩) hg).trans (hc k hk)⟩
set_option maxHeartbeats 1000000 in
theorem least_any (x : Int) (l : List Int) (hl : l.length ≤ 3) (v : Value) (w : World) (h : Sl l v w) : Calls Try.prog 50 #[.int .i64 x, v] w fun e w' => e = .returned (.int .i64 (l.foldl min x)) ∧ Below w.heap.size w w' := by
  obtain ⟨g, rfl, hg, hc⟩ := h
  go_enter Try.func50, Try.ntmps50
  go_wp2
  go_loop [0, 9] (fun t i => ∃ k : Nat, k ≤ l.length ∧ i = .int .i64 k ∧ t = .int .i64 ((l.take k).foldl min x)) (fun _ i => l.length - (intOf i).toNat)
  case atStart => exact ⟨0, Nat.zero_le _, rfl, rfl⟩
  case round =>
    obtain ⟨k, hk, rfl, rfl⟩ := hrel
    have hcell : k < l.length → w.cell? ⟨g, k, none⟩ = some (.int .i64 (l.getD k 0)) := hc k
    have hstep : k < l.length → (l.take (k + 1)).foldl min x = min ((l.take k).foldl min x) (l.getD k 0) := fun hk => by
      rw [List.take_add_one, List.foldl_append]; simp [List.getD, List.getElem?_eq_getElem hk]
    have hend : ¬ k < l.length → (l.take k).foldl min x = l.foldl min x := fun h => by rw [List.take_of_length_le (by omega)]
    go_wp2
    · rename_i hlt _
      have hk2 : k < l.length := by omega
      have e : l[k] = l.getD k 0 := by simp [List.getD, List.getElem?_eq_getElem hk2]
      refine ⟨⟨k + 1, by omega, by simp, ?_⟩, by simp [intOf]; omega⟩
      rw [hstep hk2, ← e]
      congr 1
      omega
    · rename_i hlt _
      have hk2 : k < l.length := by omega
      have e : l[k] = l.getD k 0 := by simp [List.getD, List.getElem?_eq_getElem hk2]
      refine ⟨⟨k + 1, by omega, by simp, ?_⟩, by simp [intOf]; omega⟩
      rw [hstep hk2, ← e]
      congr 1
      omega
    · go_ret
      exact ⟨rfl, Below.refl _ _⟩
set_option maxHeartbeats 1000000 in
theorem greatest_any (x : Int) (l : List Int) (hl : l.length ≤ 3) (v : Value) (w : World) (h : Sl l v w) : Calls Try.prog 42 #[.int .i64 x, v] w fun e w' => e = .returned (.int .i64 (l.foldl max x)) ∧ Below w.heap.size w w' := by
  obtain ⟨g, rfl, hg, hc⟩ := h
  go_enter Try.func42, Try.ntmps42
  go_wp2
  go_loop [0, 9] (fun t i => ∃ k : Nat, k ≤ l.length ∧ i = .int .i64 k ∧ t = .int .i64 ((l.take k).foldl max x)) (fun _ i => l.length - (intOf i).toNat)
  case atStart => exact ⟨0, Nat.zero_le _, rfl, rfl⟩
  case round =>
    obtain ⟨k, hk, rfl, rfl⟩ := hrel
    have hcell : k < l.length → w.cell? ⟨g, k, none⟩ = some (.int .i64 (l.getD k 0)) := hc k
    have hstep : k < l.length → (l.take (k + 1)).foldl max x = max ((l.take k).foldl max x) (l.getD k 0) := fun hk => by
      rw [List.take_add_one, List.foldl_append]; simp [List.getD, List.getElem?_eq_getElem hk]
    have hend : ¬ k < l.length → (l.take k).foldl max x = l.foldl max x := fun h => by rw [List.take_of_length_le (by omega)]
    go_wp2
    · rename_i hlt _
      have hk2 : k < l.length := by omega
      have e : l[k] = l.getD k 0 := by simp [List.getD, List.getElem?_eq_getElem hk2]
      refine ⟨⟨k + 1, by omega, by simp, ?_⟩, by simp [intOf]; omega⟩
      rw [hstep hk2, ← e]
      congr 1
      omega
    · rename_i hlt _
      have hk2 : k < l.length := by omega
      have e : l[k] = l.getD k 0 := by simp [List.getD, List.getElem?_eq_getElem hk2]
      refine ⟨⟨k + 1, by omega, by simp, ?_⟩, by simp [intOf]; omega⟩
      rw [hstep hk2, ← e]
      congr 1
      omega
    · go_ret
      exact ⟨rfl, Below.refl _ _⟩
theorem iAll_any (w : World) : Calls Try.prog 10 #[] w fun e w' => e = .returned (.agg #[.int .i64 (-2147483648), .int .i64 2147483647]) ∧ Below w.heap.size w w' := by
  go_enter Try.func10, Try.ntmps10
  go_wp2
  refine bodyPost_ret (v := .agg #[.int .i64 (-2147483648), .int .i64 2147483647]) (by simp [results, Try.results10, go_sem]) rfl ⟨rfl, ((Ahead.refl w).alloc _).1⟩
theorem iNone_any (w : World) : Calls Try.prog 12 #[] w fun e w' => e = .returned (.agg #[.int .i64 1, .int .i64 0]) ∧ Below w.heap.size w w' := by
  go_enter Try.func12, Try.ntmps12
  go_wp2
  refine bodyPost_ret (v := .agg #[.int .i64 1, .int .i64 0]) (by simp [results, Try.results12, go_sem]) rfl ⟨rfl, ((Ahead.refl w).alloc _).1⟩
theorem wdWrapC_any (n : Int) (w : World) : Calls Try.prog 65 #[.int .i64 n] w fun e w' => e = .returned (.int .i64 (wrap32 n)) ∧ w = w' := by
  go_enter Try.func65, Try.ntmps65
  go_wp2
  go_ret
  have h : wrap64 (wrap32 n) = wrap32 n := wrap64_wrap32 n
  simp [h]
theorem isWord_any (n : Int) (b : Bool) (hb : (decide (-2147483648 ≤ n) && decide (n ≤ 2147483647)) = b) (w : World) : Calls Try.prog 48 #[.int .i64 n] w fun e w' => e = .returned (.bool b) ∧ Below w.heap.size w w' := by
  have hw : decide (wrap32 n = n) = b := by
    rw [← hb]
    by_cases h1 : -2147483648 ≤ n <;> by_cases h2 : n ≤ 2147483647
    · simp [h1, h2, wrap32_same ⟨h1, h2⟩]
    all_goals
      have := wrap32_bounds n
      simp only [h1, h2, decide_true, decide_false, Bool.and_false, Bool.false_and, decide_eq_false_iff_not]
      intro h; omega
  have HW := Lib.hid hw
  clear hw hb
  go_enter Try.func48, Try.ntmps48
  go_wp2_with (go_at_call 65; refine (wdWrapC_any n _).mono ?_; rintro e w' ⟨rfl, rfl⟩)
  go_ret
  exact ⟨ret_bool (by rw [← HW.out]; exact (Bool.beq_eq_decide_eq _ _)), Below.refl _ _⟩
theorem sl_new1 (x : Int) (t : TypeId) (u : World) : Sl [x] (.slice (some ⟨u.heap.size, 0, none⟩) 1 1) (u.alloc (.cells #[.int .i64 x] t)) :=
  ⟨u.heap.size, rfl, by simp, fun k hk => by
    have e : k = 0 := by simp at hk; omega
    subst e
    go_simp⟩
/-- Two cells that may be written. -/
def Rz (g : Nat) (u : World) : Prop := (∃ x y, u.cell? ⟨g, 0, none⟩ = some x ∧ u.cell? ⟨g, 1, none⟩ = some y) ∧ ∀ o, u.frozen? ⟨g, o, none⟩ = false
theorem Rz.below {g : Nat} {a b : World} (h : Rz g a) (hb : Below a.heap.size a b) (hg : g < a.heap.size) : Rz g b := by
  obtain ⟨⟨x, y, h0, h1⟩, hf⟩ := h
  exact ⟨⟨x, y, (hb.cell (p := ⟨g, 0, none⟩) hg).trans h0, (hb.cell (p := ⟨g, 1, none⟩) hg).trans h1⟩, fun o => (hb.frozen (p := ⟨g, o, none⟩) hg).trans (hf o)⟩
theorem Rz.far {g g' : Nat} {a : World} {x y : Value} (h : Rz g a) (hne : g' ≠ g) : Rz g ((a.setCell ⟨g', 0, none⟩ x).setCell ⟨g', 1, none⟩ y) := by
  obtain ⟨⟨x', y', h0, h1⟩, hf⟩ := h
  exact ⟨⟨x', y', (far2 hne).trans h0, (far2 hne).trans h1⟩, fun o => by simpa using hf o⟩
theorem Rz.set {g : Nat} {a : World} {x y : Value} (h : Rz g a) : Rz g ((a.setCell ⟨g, 0, none⟩ x).setCell ⟨g, 1, none⟩ y) := by
  obtain ⟨⟨x', y', h0, h1⟩, hf⟩ := h
  exact ⟨⟨x, y, by go_simp, by go_simp⟩, fun o => by simpa using hf o⟩
/-- Two boxes with intervals and one (By: two) for results. -/
def Bx (w : World) (a b : Iv) (u : World) : Prop := Ahead 3 w u ∧ (u.cell? ⟨w.heap.size, 0, none⟩ = some (.int .i64 a.lo) ∧ u.cell? ⟨w.heap.size, 1, none⟩ = some (.int .i64 a.hi)) ∧ (u.cell? ⟨w.heap.size + 1, 0, none⟩ = some (.int .i64 b.lo) ∧ u.cell? ⟨w.heap.size + 1, 1, none⟩ = some (.int .i64 b.hi)) ∧ Rz (w.heap.size + 1 + 1) u
def By (w : World) (a b : Iv) (u : World) : Prop := Ahead 4 w u ∧ (u.cell? ⟨w.heap.size, 0, none⟩ = some (.int .i64 a.lo) ∧ u.cell? ⟨w.heap.size, 1, none⟩ = some (.int .i64 a.hi)) ∧ (u.cell? ⟨w.heap.size + 1, 0, none⟩ = some (.int .i64 b.lo) ∧ u.cell? ⟨w.heap.size + 1, 1, none⟩ = some (.int .i64 b.hi)) ∧ Rz (w.heap.size + 1 + 1) u ∧ Rz (w.heap.size + 1 + 1 + 1) u
section
variable {w u v : World} {a b : Iv} {x y : Value}
theorem Bx.below (h : Bx w a b u) (hb : Below u.heap.size u v) : Bx w a b v := by
  obtain ⟨hA, ⟨a0, a1⟩, ⟨b0, b1⟩, hr⟩ := h
  exact ⟨hA.below hb, ⟨hA.cell0 hb a0 (by omega), hA.cell0 hb a1 (by omega)⟩, ⟨hA.cell hb b0 (by omega), hA.cell hb b1 (by omega)⟩, hr.below hb (hA.lt2 (by omega))⟩
theorem Bx.drew (h : Bx w a b u) : Bx w a b u.drew := h.below (below_drewN _ u 1)
theorem Bx.set (h : Bx w a b u) : Bx w a b ((u.setCell ⟨w.heap.size + 1 + 1, 0, none⟩ x).setCell ⟨w.heap.size + 1 + 1, 1, none⟩ y) := by
  obtain ⟨hA, ⟨a0, a1⟩, ⟨b0, b1⟩, hr⟩ := h
  exact ⟨(hA.set (by omega) _).set (by omega) _, ⟨(far2 (by omega)).trans a0, (far2 (by omega)).trans a1⟩, ⟨(far2 (by omega)).trans b0, (far2 (by omega)).trans b1⟩, hr.set⟩
theorem By.below (h : By w a b u) (hb : Below u.heap.size u v) : By w a b v := by
  obtain ⟨hA, ⟨a0, a1⟩, ⟨b0, b1⟩, hr, hr2⟩ := h
  exact ⟨hA.below hb, ⟨hA.cell0 hb a0 (by omega), hA.cell0 hb a1 (by omega)⟩, ⟨hA.cell hb b0 (by omega), hA.cell hb b1 (by omega)⟩, hr.below hb (hA.lt2 (by omega)), hr2.below hb (hA.lt3 (by omega))⟩
theorem By.drew (h : By w a b u) : By w a b u.drew := h.below (below_drewN _ u 1)
theorem By.set (h : By w a b u) : By w a b ((u.setCell ⟨w.heap.size + 1 + 1, 0, none⟩ x).setCell ⟨w.heap.size + 1 + 1, 1, none⟩ y) := by
  obtain ⟨hA, ⟨a0, a1⟩, ⟨b0, b1⟩, hr, hr2⟩ := h
  exact ⟨(hA.set (by omega) _).set (by omega) _, ⟨(far2 (by omega)).trans a0, (far2 (by omega)).trans a1⟩, ⟨(far2 (by omega)).trans b0, (far2 (by omega)).trans b1⟩, hr.set, hr2.far (by omega)⟩
theorem By.set3 (h : By w a b u) : By w a b ((u.setCell ⟨w.heap.size + 1 + 1 + 1, 0, none⟩ x).setCell ⟨w.heap.size + 1 + 1 + 1, 1, none⟩ y) := by
  obtain ⟨hA, ⟨a0, a1⟩, ⟨b0, b1⟩, hr, hr2⟩ := h
  exact ⟨(hA.set (by omega) _).set (by omega) _, ⟨(far2 (by omega)).trans a0, (far2 (by omega)).trans a1⟩, ⟨(far2 (by omega)).trans b0, (far2 (by omega)).trans b1⟩, hr.far (by omega), hr2.set⟩
end
/-- One box. -/
def B1 (w : World) (a : Iv) (u : World) : Prop := Ahead 1 w u ∧ (u.cell? ⟨w.heap.size, 0, none⟩ = some (.int .i64 a.lo) ∧ u.cell? ⟨w.heap.size, 1, none⟩ = some (.int .i64 a.hi))
theorem B1.below {w u v : World} {a : Iv} (h : B1 w a u) (hb : Below u.heap.size u v) : B1 w a v := by
  obtain ⟨hA, a0, a1⟩ := h
  exact ⟨hA.below hb, hA.cell0 hb a0 (by omega), hA.cell0 hb a1 (by omega)⟩
theorem B1.drew {w u : World} {a : Iv} (h : B1 w a u) : B1 w a u.drew := h.below (below_drewN _ u 1)
theorem b1_new (w : World) (a : Iv) (t : TypeId) : B1 w a (w.alloc (.cells #[.int .i64 a.lo, .int .i64 a.hi] t)) := ⟨(Ahead.refl w).alloc _, by simp, by simp⟩
theorem bx_new (w : World) (a b : Iv) (t : TypeId) : Bx w a b (((w.alloc (.cells #[.int .i64 a.lo, .int .i64 a.hi] t)).alloc (.cells #[.int .i64 b.lo, .int .i64 b.hi] t)).alloc (.cells #[.int .i64 0, .int .i64 0] t)) :=
  ⟨(((Ahead.refl w).alloc _).alloc _).alloc _, ⟨by go_simp, by go_simp⟩, ⟨by go_simp, by go_simp⟩, ⟨.int .i64 0, .int .i64 0, by go_simp, by go_simp⟩, fun o => by go_simp⟩
theorem by_new (w : World) (a b : Iv) (t : TypeId) : By w a b ((((w.alloc (.cells #[.int .i64 a.lo, .int .i64 a.hi] t)).alloc (.cells #[.int .i64 b.lo, .int .i64 b.hi] t)).alloc (.cells #[.int .i64 0, .int .i64 0] t)).alloc (.cells #[.int .i64 0, .int .i64 0] t)) :=
  ⟨((((Ahead.refl w).alloc _).alloc _).alloc _).alloc _, ⟨by go_simp, by go_simp⟩, ⟨by go_simp, by go_simp⟩, ⟨⟨.int .i64 0, .int .i64 0, by go_simp, by go_simp⟩, fun o => by go_simp⟩, ⟨.int .i64 0, .int .i64 0, by go_simp, by go_simp⟩, fun o => by go_simp⟩
theorem least1 (x y z : Int) (hz : min x y = z) (v : Value) (w : World) (h : Sl [y] v w) : Calls Try.prog 50 #[.int .i64 x, v] w fun e w' => e = .returned (.int .i64 z) ∧ Below w.heap.size w w' := by
  subst hz; exact least_any x [y] (by simp) v w h
theorem greatest1 (x y z : Int) (hz : max x y = z) (v : Value) (w : World) (h : Sl [y] v w) : Calls Try.prog 42 #[.int .i64 x, v] w fun e w' => e = .returned (.int .i64 z) ∧ Below w.heap.size w w' := by
  subst hz; exact greatest_any x [y] (by simp) v w h
end Go.Proofs.Ytdajgopgaklipaa
