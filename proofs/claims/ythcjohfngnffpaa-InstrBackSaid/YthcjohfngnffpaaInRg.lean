/- Reads of package instr. No condition. -/
import Derived.Test.YthcjohfngnffpaaInRd
import Derived.Test.YthcjohfngnffpaaShelf
namespace Go.Proofs.Ythcjohfngnffpaa
open Go.RowKit Go.Shelf Go.Lib Go.Sort
set_option linter.unusedVariables false
set_option linter.unusedSimpArgs false
attribute [local go_sem] y_undef
theorem ms2 (x y : Int) : [x, y].mergeSort (fun x y => decide (x ≤ y)) = if x ≤ y then [x, y] else [y, x] := by
  by_cases h : x ≤ y <;> simp [List.mergeSort, List.MergeSort.Internal.splitInTwo, h]
/-- What is left of a sorted list, each once, without a 0 ahead. -/
def cut0 (c : List Int) : List Int := if c.getD 0 0 = 0 then c.tail else c
def okc (p r : List Int) : Bool := decide (0 < (Lib.compact p).length) && decide (cut0 (Lib.compact p) = r)
theorem okc1 : ∀ x : Fin 8, okc ([(x.1 : Int)].mergeSort fun x y => decide (x ≤ y)) (In.rl [(x.1 : Int)]) = true := by decide +kernel
theorem okc2' : ∀ x y : Fin 8, okc (if (x.1 : Int) ≤ (y.1 : Int) then [(x.1 : Int), (y.1 : Int)] else [(y.1 : Int), (x.1 : Int)]) (In.rl [(x.1 : Int), (y.1 : Int)]) = true := by decide +kernel
theorem okc2 (x y : Fin 8) : okc ([(x.1 : Int), (y.1 : Int)].mergeSort fun x y => decide (x ≤ y)) (In.rl [(x.1 : Int), (y.1 : Int)]) = true := by rw [ms2]; exact okc2' x y
theorem below_gr {B : Nat} {w u : World} {os : Array Obj} (h : Below B w u) (hB : B ≤ u.heap.size) : Below B w (grow u os) :=
  h.trans ⟨rfl, rfl, rfl, by simp [grow], fun k hk => heap_grow_old u os (Nat.lt_of_lt_of_le hk hB)⟩
theorem own_gr {u : World} {base sz n : Nat} {e : TypeId} {v : Value} {xs : List Value} {os : Array Obj} (h : u.ownsRow base e sz v n xs) : (grow u os).ownsRow base e sz v n xs := own_below h (below_gr (Below.refl _ _) (Nat.le_refl _))
theorem own_first {u : World} {base g n cap : Nat} {e : TypeId} {x : Int} {t : List Int} (h : u.ownsRow base e 1 (.slice (some ⟨g, 0, none⟩) n cap) n ((x :: t).map (Value.int .i64))) : u.cell? ⟨g, 0, none⟩ = some (.int .i64 x) := h.cells (g := g) rfl 0 _ rfl
theorem cm_step {w u u3 : World} {e : TypeId} {g n cap q : Nat} {s c : List Int} (h : u.ownsRow w.heap.size e 1 (.slice (some ⟨g, 0, none⟩) n cap) n (s.map (Value.int .i64))) (hb : RowKit.Below w.heap.size w u) (hg : w.heap.size ≤ g) (hcl : c.length ≤ n)
    (h3 : u3 = putRow (Value.int .i64) (Sort.ahead u q) g 0 (c ++ List.replicate (n - c.length) 0).toArray) : u3.ownsRow w.heap.size e 1 (.slice (some ⟨g, 0, none⟩) c.length cap) c.length (c.map (Value.int .i64)) ∧ RowKit.Below w.heap.size w u3 := by
  have hB := Lib.below_putRow (enc := Value.int .i64) (q := q) (d := (c ++ List.replicate (n - c.length) 0).toArray) hb hg
  rw [h3]
  refine ⟨?_, hB⟩
  have := Lib.ownsRow_putRow (q := q) (ys := c ++ List.replicate (n - c.length) 0) h (by simp; omega) hcl
  rwa [List.take_left] at this
/-- A slice of one's own from its element 1 on. -/
theorem nums_tail {u : World} {base g cap : Nat} {x : Int} {t : List Int} (h : u.ownsRow base 3 1 (.slice (some ⟨g, 0, none⟩) (t.length + 1) cap) (t.length + 1) ((x :: t).map (Value.int .i64))) (A : Option Addr) (c : Nat) (hA : t ≠ [] → A = some ⟨g, 1, none⟩) : NumsIn u (.slice A t.length c) t := by
  refine ⟨A, c, rfl, by simp, ?_⟩
  by_cases h0 : t = []
  · exact .inl (by simp [h0])
  · refine .inr ⟨g, 1, hA h0, ?_, fun j y hj => ?_⟩
    · exact (h.lt g rfl).2
    · have hc := h.cells (g := g) rfl (j + 1) y (by simpa using hj)
      rw [Nat.add_comm 1 j]
      simpa [Addr.add] using hc
theorem fin_keep {u : World} {base g cap : Nat} {x : Int} {t r : List Int} (h : u.ownsRow base 3 1 (.slice (some ⟨g, 0, none⟩) (t.length + 1) cap) (t.length + 1) ((x :: t).map (Value.int .i64))) (hr : cut0 (x :: t) = r) (hx : ¬ x = 0) : NumsIn u (.slice (some ⟨g, 0, none⟩) (t.length + 1) cap) r := by
  have : cut0 (x :: t) = x :: t := by unfold cut0; exact if_neg hx
  rw [← hr, this]
  exact RowIn.own h
theorem fin_tail {u : World} {base g cap c : Nat} {x : Int} {t r : List Int} (h : u.ownsRow base 3 1 (.slice (some ⟨g, 0, none⟩) (t.length + 1) cap) (t.length + 1) ((x :: t).map (Value.int .i64))) (hr : cut0 (x :: t) = r) (hx : x = 0) : NumsIn u (.slice (some ⟨g, 1, none⟩) t.length c) r := by
  have : cut0 (x :: t) = t := by unfold cut0; exact if_pos hx
  rw [← hr, this]
  exact nums_tail h _ _ (fun _ => rfl)
theorem fin_none {u : World} {base g cap c : Nat} {A : Option Addr} {x : Int} {t r : List Int} (h : u.ownsRow base 3 1 (.slice (some ⟨g, 0, none⟩) (t.length + 1) cap) (t.length + 1) ((x :: t).map (Value.int .i64))) (hr : cut0 (x :: t) = r) (hx : x = 0) (hcap : cap = 1) : NumsIn u (.slice A t.length c) r := by
  subst hcap
  have h1 : cut0 (x :: t) = t := by unfold cut0; exact if_pos hx
  rw [← hr, h1]
  refine nums_tail h _ _ (fun ht => absurd ?_ ht)
  rcases h.2 with ⟨e, _⟩ | ⟨g', cap', cur, e, _, _, hle, _⟩
  · cases e
  · injection e with _ _ e3
    subst e3
    exact List.eq_nil_of_length_eq_zero (by omega)
set_option maxHeartbeats 8000000 in
theorem regs_any (p r : List Int) (b n : Nat) (w : World) (hn : p.length = n) (h0 : 0 < n) (h2 : n ≤ 2) (hk : okc (p.mergeSort fun x y => decide (x ≤ y)) r = true)
    (hc : ∀ j, j < p.length → w.cell? ⟨b, 0 + j, none⟩ = some (.int .i64 (p.getD j 0))) :
    Calls Try.prog 28 #[.slice (some ⟨b, 0, none⟩) n n] w fun e w' => (∃ v, e = .returned v ∧ NumsIn w' v r) ∧ Below w.heap.size w w' := by
  unfold okc at hk
  simp only [Bool.and_eq_true, decide_eq_true_eq] at hk
  obtain ⟨s, hs⟩ : ∃ s, (p.mergeSort fun x y => decide (x ≤ y)) = s := ⟨_, rfl⟩
  have hsl : s.length = n := by rw [← hs, List.length_mergeSort, hn]
  rw [hs] at hk
  obtain ⟨c, hcm⟩ : ∃ c, Lib.compact s = c := ⟨_, rfl⟩
  have hcl : c.length ≤ n := by rw [← hcm, ← hsl]; exact Lib.compact_length_le s
  rw [hcm] at hk
  obtain ⟨hk0, hkr⟩ := hk
  have H1 := Lib.hid (Try.slices_Clone_int b 0 n n p w (by omega) (by omega) hc)
  clear hc
  have HP := Lib.hid (And.intro hn (And.intro hs (And.intro hsl hcm)))
  clear hn hs hsl hcm
  go_enter Try.func28, Try.ntmps28
  go_wp2_with (go_at_call 37; refine H1.out.mono ?_; rintro e u ⟨v, rfl, hown, hne, hb⟩; rw [show p.take n = p from by rw [← HP.out.1, List.take_length]] at hown; obtain ⟨g, cap, rfl, hg0, hg1, hcap, hmax, hpl, hH⟩ := Lib.holds_of_ownsRow hown hne; have HF := Lib.hid (And.intro hown (And.intro hb (And.intro hH (And.intro hg0 (And.intro hg1 (And.intro hcap hmax)))))); clear hown hne hb hH hg0 hg1 hcap hmax hpl)
  have HS := Lib.hid (Try.slices_Sort_int g 0 cap p u HF.out.2.2.1 HF.out.2.2.2.2.1 (by rw [HP.out.1]; omega))
  rw [HP.out.1, HP.out.2.1] at HS
  go_wp2_with (go_at_call 38; refine HS.out.mono ?_; rintro e u2 ⟨rfl, n1, os, hu2⟩; have HU2 := Lib.hid hu2; clear hu2)
  have HG := Lib.hid (show u2.ownsRow w.heap.size 3 1 (.slice (some ⟨g, 0, none⟩) n cap) n (s.map (Value.int .i64)) ∧ Below w.heap.size w u2 from by
    have hB := Lib.below_putRow (enc := Value.int .i64) (q := n1) (d := s.toArray) HF.out.2.1 HF.out.2.2.2.1
    rw [HU2.out]
    refine ⟨own_gr ?_, below_gr hB hB.size⟩
    have := Lib.ownsRow_putRow (q := n1) (ys := s) HF.out.1 HP.out.2.2.1 (Nat.le_refl n)
    rwa [show s.take n = s from by rw [← HP.out.2.2.1, List.take_length]] at this)
  clear HS HU2 H1
  obtain ⟨g', cap', hgv, hg0, hg1, hcap, hmax, hsl, hH⟩ := Lib.holds_of_ownsRow HG.out.1 (by intro e; cases e)
  obtain ⟨rfl, rfl⟩ : g' = g ∧ cap' = cap := by
    injection hgv with e1 _ e2
    injection e1 with e1
    injection e1 with e1
    exact ⟨e1.symm, e2.symm⟩
  clear hgv
  have HC := Lib.hid (Try.slices_Compact_int g' 0 cap' s u2 hH (by omega) (by omega))
  rw [HP.out.2.2.1, HP.out.2.2.2] at HC
  clear hH hsl
  go_wp2_with (go_at_call 39; refine HC.out.mono ?_; rintro e u3 ⟨rfl, n2, hu3⟩; have HU3 := Lib.hid hu3; clear hu3; have HD := Lib.hid (show u3.ownsRow w.heap.size 3 1 (.slice (some ⟨g', 0, none⟩) c.length cap') c.length (c.map (Value.int .i64)) ∧ RowKit.Below w.heap.size w u3 from cm_step HG.out.1 HG.out.2 hg0 hcl HU3.out); clear HC HU3 HG HF HP; obtain ⟨x, t, rfl⟩ := List.exists_cons_of_length_pos hk0; have hx0 := own_first HD.out.1; clear hcl)
  all_goals go_ret
  all_goals first | exact ⟨⟨_, rfl, fin_keep HD.out.1 hkr (by first | assumption | (intro h; simp_all; done))⟩, HD.out.2⟩ | exact ⟨⟨_, rfl, fin_tail HD.out.1 hkr (by first | assumption | exact eq_of_beq (by assumption))⟩, HD.out.2⟩ | exact ⟨⟨_, rfl, fin_none HD.out.1 hkr (by first | assumption | exact eq_of_beq (by assumption)) (by assumption)⟩, HD.out.2⟩ | fail "end"
end Go.Proofs.Ythcjohfngnffpaa
