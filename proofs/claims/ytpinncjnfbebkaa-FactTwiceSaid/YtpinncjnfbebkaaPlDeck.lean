/- A deck of numbers and what its Next leaves, for laws without trees. No condition. -/
import Derived.Test.YtpinncjnfbebkaaPlRow
import Derived.BigQuiet
import Derived.Deep.QuietTactic
namespace Go.Proofs.Ytpinncjnfbebkaa
open Go.RowKit
set_option linter.unusedVariables false
theorem grown_refl (w : World) (r : Option Nat) : w.grownBy w r := ⟨rfl, rfl, rfl, Nat.le_refl _, fun _ _ _ => rfl⟩
theorem grown_trans {w w' w'' : World} {r : Option Nat} (h : w.grownBy w' r) (k : w'.grownBy w'' r) : w.grownBy w'' r :=
  ⟨k.os.trans h.os, k.tape.trans h.tape, k.output.trans h.output, Nat.le_trans h.size k.size, fun b hb hr => (k.block b (Nat.lt_of_lt_of_le hb h.size) hr).trans (h.block b hb hr)⟩
theorem grown_below {w w' : World} {r : Option Nat} (h : Below w.heap.size w w') : w.grownBy w' r := ⟨h.os, h.tape, h.output, h.size, fun b hb _ => h.block b hb⟩
theorem grown_to {B D : Nat} {w w' : World} (h : w.grownBy w' (some D)) (hD : B ≤ D) (hs : B ≤ w.heap.size) : Below B w w' := ⟨h.os, h.tape, h.output, h.size, fun b hb => h.block b (by omega) (fun e => by injection e with e; omega)⟩
theorem bk_grown {w w' : World} {r : Option Nat} {g : Nat} {t : TypeId} {cs : Array Value} (h : Bk w g t cs) (hg : w.grownBy w' r) (hne : some g ≠ r) : Bk w' g t cs := (hg.block g h.lt hne).trans h
/-- A deck: a list of numbers that came in, and how many of them are taken. -/
def Deck (w : World) (v : Value) (zs : List Int) (D : Nat) : Prop :=
  ∃ k : Nat, k ≤ zs.length ∧ Bk w D 56 #[v, .int .i64 k] ∧ IntsIn .i64 w v zs ∧ (∀ a n c, v = .slice (some a) n c → a.block < D) ∧ zs.length ≤ maxLen ∧ ∀ z ∈ zs, -9223372036854775808 ≤ z ∧ z ≤ 9223372036854775807
section
variable {w w' : World} {v : Value} {zs : List Int} {D : Nat}
theorem Deck.lt (h : Deck w v zs D) : D < w.heap.size := by
  obtain ⟨k, _, h, _⟩ := h
  exact h.lt
theorem ints_keep {k : IntKind} {w w' : World} {v : Value} {zs : List Int} (h : IntsIn k w v zs) (hs : w.heap.size ≤ w'.heap.size) (hc : ∀ a n c, v = .slice (some a) n c → a.block < w.heap.size → ∀ f, w'.cell? ⟨a.block, f, none⟩ = w.cell? ⟨a.block, f, none⟩) : IntsIn k w' v zs := by
  rcases h with h | ⟨b, off, c, h0, hv, hlt, hcs⟩
  · exact .inl h
  · exact .inr ⟨b, off, c, h0, hv, by omega, fun i hi => (hc _ _ _ hv hlt _).trans (hcs i hi)⟩
theorem Deck.keep (h : Deck w v zs D) (hs : w.heap.size ≤ w'.heap.size) (hD : w'.heap[D]? = w.heap[D]?) (hl : ∀ b, b < D → w'.heap[b]? = w.heap[b]?) : Deck w' v zs D := by
  obtain ⟨k, hk, hb, hi, hv, hm, hz⟩ := h
  exact ⟨k, hk, hD.trans hb, ints_keep hi hs fun a n c e _ f => World.cell?_of_block (hl _ (hv a n c e)), hv, hm, hz⟩
theorem Deck.below (h : Deck w v zs D) (hb : Below w.heap.size w w') : Deck w' v zs D := h.keep hb.size (hb.block D h.lt) fun b hlt => hb.block b (by have := h.lt; omega)
/-- A step that changes a block behind the deck. -/
theorem Deck.grown {r : Option Nat} (h : Deck w v zs D) (hg : w.grownBy w' r) (hr : ∀ k, r = some k → D < k) : Deck w' v zs D :=
  h.keep hg.size (hg.block D h.lt (fun e => by have := hr D e.symm; omega)) fun b hlt => hg.block b (by have := h.lt; omega) (fun e => by have := hr b e.symm; omega)
end
/-- What Next leaves. -/
def Nexted (n : Int) (D : Nat) (v : Value) (zs : List Int) (w : World) (e : Ending) (w' : World) : Prop :=
  ∃ r : Int, e = .returned (.int .i64 r) ∧ 0 ≤ r ∧ (r < n ∨ r = 0) ∧ Deck w' v zs D ∧ w.grownBy w' (some D)
theorem tmod_mod (z n : Int) : (z.tmod n + n) % n = z % n := by
  have h := Int.mul_tdiv_add_tmod z n
  rw [Int.add_emod_right]
  conv => rhs; rw [← h]
  rw [Int.add_comm, Int.add_mul_emod_self_left]
theorem tmod_lo (z n : Int) (h : 0 < n) : -n < z.tmod n := by
  have h1 : (-z).tmod n < n := Int.tmod_lt_of_pos (-z) h
  rw [Int.neg_tmod] at h1
  omega
theorem g_int {k : IntKind} {a b : Int} (h : a = b) : Ending.returned (.int k a) = .returned (.int k b) := by rw [h]
theorem gmod_any (z n : Int) (hz : -9223372036854775808 ≤ z ∧ z ≤ 9223372036854775807) (hn : 1 ≤ n ∧ n ≤ 1000000) (w : World) :
    Calls Try.prog 14 #[.int .i64 z, .int .i64 n] w fun e w' => e = .returned (.int .i64 (z % n)) ∧ w = w' := by
  obtain ⟨h1, h2⟩ := hz
  obtain ⟨h3, h4⟩ := hn
  have hne : ¬ n = 0 := by omega
  have a1 : -n < z.tmod n := tmod_lo z n (by omega)
  have a2 : z.tmod n < n := Int.tmod_lt_of_pos z (by omega)
  go_enter Try.func14, Try.ntmps14
  go_wp2
  go_ret
  exact ⟨g_int (tmod_mod z n), rfl⟩
theorem Deck.drewN {w : World} {v : Value} {zs : List Int} {D : Nat} (h : Deck w v zs D) (n : Nat) : Deck (w.drewN n) v zs D := h
theorem grown_drewN (w : World) (n : Nat) (r : Option Nat) : w.grownBy (w.drewN n) r := ⟨rfl, rfl, rfl, Nat.le_refl _, fun _ _ _ => rfl⟩
theorem deck_set {w : World} {D len b off c k : Nat} {zs : List Int} (hb : Bk w D 56 #[.slice (some ⟨b, off, none⟩) zs.length c, .int .i64 k]) (hi : IntsIn .i64 w (.slice (some ⟨b, off, none⟩) len c) zs)
    (hv : ∀ (a : Addr) (n c' : Nat), Value.slice (some ⟨b, off, none⟩) zs.length c = .slice (some a) n c' → a.block < D) (hl : zs.length = len) (hm : len ≤ 9223372036854775807) (hz : ∀ z ∈ zs, -9223372036854775808 ≤ z ∧ z ≤ 9223372036854775807) (hk : k < len) (q : Nat) :
    Deck ((w.drewN q).setCell ⟨D, 1, none⟩ (.int .i64 ((k : Int) + 1))) (.slice (some ⟨b, off, none⟩) zs.length c) zs D := by
  subst hl
  have hbD : b < D := hv _ _ _ rfl
  refine ⟨k + 1, hk, ?_, ?_, hv, by unfold maxLen; omega, hz⟩
  · have h := Bk.set (w := w.drewN q) hb 1 (.int .i64 ((k : Int) + 1))
    exact h
  · exact ints_keep hi (by simp) fun a n c' e hlt f => by
      have e2 : a = ⟨b, off, none⟩ := by injection e with e _ _; injection e with e; exact e.symm
      subst e2
      exact World.cell?_of_block (Below.heap_setCell _ _ _ _ (by show b ≠ D; omega))
theorem grown_set (w : World) (D q i : Nat) (u : Value) : w.grownBy ((w.drewN q).setCell ⟨D, i, none⟩ u) (some D) :=
  ⟨rfl, rfl, rfl, by simp, fun b hb hne => Below.heap_setCell _ _ _ _ (by rintro rfl; exact hne rfl)⟩
set_option maxHeartbeats 400000 in
theorem next_any (n : Int) (D : Nat) (v : Value) (zs : List Int) (w : World) (h : Deck w v zs D) (hn : 0 ≤ n ∧ n ≤ 1000000) :
    Calls Try.prog 11 #[.pointer (some ⟨D, 0, none⟩), .int .i64 n] w fun e w' => Nexted n D v zs w e w' := by
  obtain ⟨n0, n1⟩ := hn
  have hD := Lib.hid h
  obtain ⟨k, hk, hb, hi, hv, hm, hz⟩ := h
  unfold maxLen at hm
  have c0 : w.cell? ⟨D, 0, none⟩ = some v := hb.cell 0
  have c1 : w.cell? ⟨D, 1, none⟩ = some (.int .i64 k) := hb.cell 1
  have f1 : w.frozen? ⟨D, 1, none⟩ = false := hb.frozen 1
  by_cases hlt : k < zs.length
  · rcases hi with ⟨rfl, _⟩ | ⟨b, off, c, h0, rfl, hbl, hc⟩
    · simp at hlt
    · have hbD : b < D := hv _ _ _ rfl
      obtain ⟨len, hl⟩ : ∃ len, zs.length = len := ⟨_, rfl⟩
      rw [hl] at hlt hk hm h0 hc
      have HL := Lib.hid hl
      rw [hl] at c0
      have HB := Lib.hid hb
      have HI : Hid (IntsIn .i64 w (.slice (some ⟨b, off, none⟩) len c) zs) := by rw [← HL.out]; exact .inr ⟨b, off, c, by rw [HL.out]; exact h0, rfl, hbl, by rw [HL.out]; exact hc⟩
      have cz := hc k hlt
      have hzk := hz (zs.getD k 0) (by rw [List.getD_eq_getElem?_getD, List.getElem?_eq_getElem (by rw [hl]; exact hlt)]; simp)
      have HC := Lib.hid hc
      have HZ := Lib.hid hz
      have HV := Lib.hid hv
      clear hc hl hb hz hv
      generalize zs.getD k 0 = z at *
      have d1 : decide (len ≤ k) = false := by simp; omega
      by_cases h1 : n ≤ 1
      · have d2 : decide (n ≤ 1) = true := by simpa using h1
        go_enter Try.func11, Try.ntmps11
        go_wp2
        go_quiet (fail)
        go_wp2
        go_ret
        exact ⟨0, rfl, by omega, .inr rfl, hD.out.drewN _, grown_drewN _ _ _⟩
      · have d2 : decide (n ≤ 1) = false := by simp; omega
        have h2 : 2 ≤ n := by omega
        clear h1
        have hk1 : ((k : Int) + 1 - 1) = k := by omega
        have HK := Lib.hid hk1
        clear hk1
        go_enter Try.func11, Try.ntmps11
        go_wp2
        go_quiet (fail)
        go_wp2
        go_quiet ((go_at_call 14; exact Calls.quiet_of_same ((gmod_any z n hzk (by omega) _).mono fun _ _ h => ⟨h.1, h.2.symm⟩)))
        go_wp2
        go_ret
        exact ⟨z % n, rfl, Int.emod_nonneg z (by omega), .inl (Int.emod_lt_of_pos z (by omega)), (deck_set HB.out HI.out HV.out HL.out hm HZ.out hlt _).drewN _, grown_trans (grown_set w D _ 1 _) (grown_drewN _ _ _)⟩
  · have d1 : decide (zs.length ≤ k) = true := by simp; omega
    obtain ⟨A, c, rfl⟩ : ∃ A c, v = .slice A zs.length c := by
      rcases hi with ⟨e, A, c, rfl⟩ | ⟨b, off, c, _, rfl, _⟩
      · rw [e]; exact ⟨A, c, rfl⟩
      · exact ⟨_, c, rfl⟩
    have HB := Lib.hid hb
    have HI := Lib.hid hi
    have HZ := Lib.hid hz
    have HV := Lib.hid hv
    clear hb hi hz hv
    go_enter Try.func11, Try.ntmps11
    go_wp2
    go_quiet (fail)
    go_wp2
    go_ret
    exact ⟨0, rfl, by omega, .inr rfl, hD.out.drewN _, grown_drewN _ _ _⟩
theorem few_any (v : Value) (zs : List Int) (b : Bool) (w : World) (h : IntsIn .i64 w v zs) (hm : zs.length ≤ maxLen) (hb : decide (zs.length ≤ 400) = b) : Calls Try.prog 8 #[v] w fun e w' => e = .returned (.bool b) ∧ w = w' := by
  have hi : decide ((zs.length : Int) ≤ 400) = b := by rw [← hb, decide_eq_decide]; omega
  have HI := Lib.hid hi
  obtain ⟨A, c, rfl⟩ : ∃ A c, v = .slice A zs.length c := by
    rcases h with ⟨rfl, A, c, rfl⟩ | ⟨b, off, c, _, rfl, _⟩
    · exact ⟨A, c, rfl⟩
    · exact ⟨_, c, rfl⟩
  clear hb hi h
  go_enter Try.func8, Try.ntmps8
  go_wp2
  go_ret
  exact ⟨by rw [← HI.out]; rfl, rfl⟩
theorem newdeck_any (v : Value) (zs : List Int) (w : World) (h : IntsIn .i64 w v zs) (hv : ∀ a n c, v = .slice (some a) n c → a.block < w.heap.size) (hm : zs.length ≤ maxLen) (hz : ∀ z ∈ zs, -9223372036854775808 ≤ z ∧ z ≤ 9223372036854775807) :
    Calls Try.prog 10 #[v] w fun e w' => e = .returned (.pointer (some ⟨w.heap.size, 0, none⟩)) ∧ Deck w' v zs w.heap.size ∧ Below w.heap.size w w' := by
  obtain ⟨A, c, e⟩ : ∃ A c, v = .slice A zs.length c := by
    rcases h with ⟨rfl, A, c, rfl⟩ | ⟨b, off, c, _, rfl, _⟩
    · exact ⟨A, c, rfl⟩
    · exact ⟨_, c, rfl⟩
  have hb : Below w.heap.size w (w.alloc (.cells #[v, .int .i64 0] 56)) := (Below.refl _ _).alloc (Nat.le_refl _) _
  have HD := Lib.hid (show Deck (w.alloc (.cells #[v, .int .i64 0] 56)) v zs w.heap.size from ⟨0, Nat.zero_le _, Bk.new _ _ _, h.below hb, hv, hm, hz⟩)
  clear h hv hm hz
  subst e
  go_enter Try.func10, Try.ntmps10
  go_wp2
  go_ret
  exact ⟨rfl, HD.out, hb⟩
end Go.Proofs.Ytpinncjnfbebkaa
