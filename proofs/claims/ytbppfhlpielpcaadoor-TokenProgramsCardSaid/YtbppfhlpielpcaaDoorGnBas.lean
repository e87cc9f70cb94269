/- What the walks over the generator share: blocks that are known whole, what a step of it may change, a deck of numbers, trees that are new. The generator's deck: Mod, Next, Word, Op; and Num, Name, Bin. The generator's maker: what it holds, and that steps of the generator keep it; expressions as it makes them. The generator's expressions: name, usable, expr. append onto a row of the call's own, of a slice that is nil or lies at an address. The generator's usable. -/
import Derived.Test.YtbppfhlpielpcaaDoorRows
import Derived.Test.YtbppfhlpielpcaaDoorLawKit
import Derived.Test.YtbppfhlpielpcaaDoorTrMem
import Derived.WalkKit
import Derived.ProofKit
import Derived.OpenShut
import Derived.BigQuiet
import Derived.Deep.QuietTactic
import Derived.Deep.RegionHeld3
import Derived.Lib.Hide
import Derived.OwnWalk
import Derived.Laws.Rows
import Derived.Laws.AppendOwnNone
import Derived.Maps.AppendAt
namespace Go.Proofs.YtbppfhlpielpcaaDoor
open Go.RowKit
set_option linter.unusedVariables false

/-- Block g is just these cells, none frozen. -/
def Blk (w : World) (g : Nat) (t : TypeId) (cs : Array Value) : Prop := w.heap[g]? = some (.cells cs t (0, 0))
/-- Of what type the elements of a block are. -/
def tagOf (w : World) (b : Nat) : Option TypeId := match w.heap[b]? with | some (.cells _ t _) => some t | _ => none
section
variable {w w' : World} {g : Nat} {t : TypeId} {cs : Array Value}
theorem Blk.lt (h : Blk w g t cs) : g < w.heap.size := by
  by_cases hg : g < w.heap.size
  · exact hg
  · unfold Blk at h; rw [Array.getElem?_eq_none (by omega)] at h; exact absurd h (by simp)
theorem Blk.cell (h : Blk w g t cs) (i : Nat) : w.cell? ⟨g, i, none⟩ = cs[i]? := cell_of_row w g i cs t (0, 0) h
theorem Blk.frozen (h : Blk w g t cs) (i : Nat) : w.frozen? ⟨g, i, none⟩ = false := by unfold Blk at h; simp [World.frozen?, h]
theorem Blk.new (w : World) (t : TypeId) (cs : Array Value) : Blk (w.alloc (.cells cs t)) w.heap.size t cs := heap_alloc_new w _
theorem Blk.alloc (h : Blk w g t cs) (o : Obj) : Blk (w.alloc o) g t cs := (Below.heap_alloc w o g h.lt).trans h
theorem Blk.drewN (h : Blk w g t cs) (n : Nat) : Blk (w.drewN n) g t cs := h
theorem Blk.drew (h : Blk w g t cs) : Blk w.drew g t cs := h
theorem Blk.set (h : Blk w g t cs) (i : Nat) (u : Value) : Blk (w.setCell ⟨g, i, none⟩ u) g t (cs.setIfInBounds i u) := by
  unfold Blk at h ⊢
  simp [World.setCell, Array.getElem?_modify, h]
theorem Blk.far (h : Blk w g t cs) {p : Addr} (hp : g ≠ p.block) (u : Value) : Blk (w.setCell p u) g t cs := (Below.heap_setCell w p u g hp).trans h
theorem Blk.tag (h : Blk w g t cs) : tagOf w g = some t := by unfold Blk at h; simp [tagOf, h]
theorem Blk.below {B : Nat} (h : Blk w g t cs) (hb : Below B w w') (hg : g < B) : Blk w' g t cs := (hb.block g hg).trans h
theorem tag_same (h : w'.heap[g]? = w.heap[g]?) : tagOf w' g = tagOf w g := by simp [tagOf, h]
theorem tag_ne {g' : Nat} {t t' : TypeId} (h : tagOf w g = some t) (h' : tagOf w g' = some t') (hne : t ≠ t') : g ≠ g' := by
  rintro rfl
  rw [h] at h'
  exact hne (by injection h')
end

/-- What a step of the generator may change: blocks D and M, and rows of texts from B on. -/
structure Gen (D M B : Nat) (w w' : World) : Prop where
  os : w'.os = w.os
  tape : w'.tape = w.tape
  output : w'.output = w.output
  size : w.heap.size ≤ w'.heap.size
  block : ∀ b, b < w.heap.size → b ≠ D → b ≠ M → (B ≤ b → tagOf w b ≠ some 9) → w'.heap[b]? = w.heap[b]?
section
variable {D M B : Nat} {w w' w'' : World}
theorem Gen.refl (D M B : Nat) (w : World) : Gen D M B w w := ⟨rfl, rfl, rfl, Nat.le_refl _, fun _ _ _ _ _ => rfl⟩
theorem Gen.trans (h : Gen D M B w w') (k : Gen D M B w' w'') : Gen D M B w w'' :=
  ⟨k.os.trans h.os, k.tape.trans h.tape, k.output.trans h.output, Nat.le_trans h.size k.size, fun b hb hd hm ht => by
    have e := h.block b hb hd hm ht
    rw [k.block b (Nat.lt_of_lt_of_le hb h.size) hd hm (fun hB => by rw [tag_same e]; exact ht hB), e]⟩
theorem Gen.below (h : Below w.heap.size w w') (D M B : Nat) : Gen D M B w w' := ⟨h.os, h.tape, h.output, h.size, fun b hb _ _ _ => h.block b hb⟩
theorem Gen.toBelow (h : Gen D M B w w') {b0 : Nat} (hD : b0 ≤ D) (hM : b0 ≤ M) (hB : b0 ≤ B) (hs : b0 ≤ w.heap.size) : Below b0 w w' :=
  ⟨h.os, h.tape, h.output, h.size, fun k hk => h.block k (by omega) (by omega) (by omega) (fun _ => by omega)⟩
theorem Gen.drewN (D M B : Nat) (w : World) (n : Nat) : Gen D M B w (w.drewN n) := ⟨rfl, rfl, rfl, Nat.le_refl _, fun _ _ _ _ _ => rfl⟩
theorem Gen.drew (h : Gen D M B w w') : Gen D M B w w'.drew := h.trans (Gen.drewN D M B w' 1)
theorem Gen.alloc (h : Gen D M B w w') (o : Obj) : Gen D M B w (w'.alloc o) := h.trans (Gen.below ((Below.refl _ _).alloc (Nat.le_refl _) o) D M B)
theorem Gen.set (h : Gen D M B w w') {p : Addr} (hp : p.block = D ∨ p.block = M ∨ w.heap.size ≤ p.block) (u : Value) : Gen D M B w (w'.setCell p u) :=
  ⟨h.os, h.tape, h.output, by simpa using h.size, fun b hb hd hm ht => by rw [Below.heap_setCell _ _ _ _ (by omega)]; exact h.block b hb hd hm ht⟩
/-- A step that changes block D alone. -/
theorem Gen.only (h : Gen D D w.heap.size w w') (M B : Nat) : Gen D M B w w' := ⟨h.os, h.tape, h.output, h.size, fun b hb hd _ _ => h.block b hb hd hd (fun hB => by omega)⟩
/-- A block that no step changes. -/
theorem Gen.blk {g : Nat} {t : TypeId} {cs : Array Value} (h : Gen D M B w w') (hb : Blk w g t cs) (hD : g ≠ D) (hM : g ≠ M) (ht : B ≤ g → t ≠ 9) : Blk w' g t cs :=
  (h.block g hb.lt hD hM (fun hB => by rw [hb.tag]; exact fun e => ht hB (by injection e))).trans hb
theorem Gen.cell (h : Gen D M B w w') {b : Nat} (hb : b < w.heap.size) (hD : b ≠ D) (hM : b ≠ M) (hB : b < B) (f : Nat) : w'.cell? ⟨b, f, none⟩ = w.cell? ⟨b, f, none⟩ :=
  World.cell?_of_block (h.block b hb hD hM (fun h => by omega))
end

/-- Blocks of expressions and of statements; such from block n on. -/
def Tr (w : World) (b : Nat) : Prop := tagOf w b = some 91 ∨ tagOf w b = some 88
def Fr (n : Nat) (w : World) (b : Nat) : Prop := n ≤ b ∧ Tr w b
section
variable {D M B : Nat} {w w' : World}
theorem Gen.tr (h : Gen D M B w w') (hD : tagOf w D = some 49) (hM : tagOf w M = some 49 ∨ tagOf w M = some 94) {b : Nat} (hb : Tr w b) (hl : b < w.heap.size) : w'.heap[b]? = w.heap[b]? := by
  have hn : ∀ t, tagOf w b = some t → t = 91 ∨ t = 88 := by
    intro t ht
    rcases hb with hb | hb <;> rw [hb] at ht <;> injection ht with ht <;> simp [← ht]
  refine h.block b hl ?_ ?_ ?_
  · rintro rfl
    have := hn _ hD
    revert this; decide
  · rintro rfl
    rcases hM with hM | hM
    · have := hn _ hM
      revert this; decide
    · have := hn _ hM
      revert this; decide
  · intro _ e
    have := hn _ e
    revert this; decide
theorem Gen.fr (h : Gen D M B w w') (hD : tagOf w D = some 49) (hM : tagOf w M = some 49 ∨ tagOf w M = some 94) {n m : Nat} (hmn : m ≤ n) :
    ∀ b, Fr n w b → b < w.heap.size → Fr m w' b ∧ ∀ f, w'.cell? ⟨b, f, none⟩ = w.cell? ⟨b, f, none⟩ := fun b hb hl => by
  have e := h.tr hD hM hb.2 hl
  refine ⟨⟨by have := hb.1; omega, ?_⟩, fun f => World.cell?_of_block e⟩
  unfold Tr
  rw [tag_same e]
  exact hb.2
theorem below_fr (h : Below w.heap.size w w') {n m : Nat} (hmn : m ≤ n) : ∀ b, Fr n w b → b < w.heap.size → Fr m w' b ∧ ∀ f, w'.cell? ⟨b, f, none⟩ = w.cell? ⟨b, f, none⟩ := fun b hb hl => by
  have e := h.block b hl
  refine ⟨⟨by have := hb.1; omega, ?_⟩, fun f => World.cell?_of_block e⟩
  unfold Tr
  rw [tag_same e]
  exact hb.2
theorem set_fr {g : Nat} {i : Nat} {u : Value} {n m : Nat} (hg : g < n) (hmn : m ≤ n) : ∀ b, Fr n w b → b < w.heap.size → Fr m (w.setCell ⟨g, i, none⟩ u) b ∧ ∀ f, (w.setCell ⟨g, i, none⟩ u).cell? ⟨b, f, none⟩ = w.cell? ⟨b, f, none⟩ := fun b hb hl => by
  have e : (w.setCell ⟨g, i, none⟩ u).heap[b]? = w.heap[b]? := Below.heap_setCell w _ u b (by have := hb.1; show b ≠ g; omega)
  refine ⟨⟨by have := hb.1; omega, ?_⟩, fun f => World.cell?_of_block e⟩
  unfold Tr
  rw [tag_same e]
  exact hb.2
end

/-- A deck: a list of numbers that came in, and how many of them are taken. -/
def Deck (w : World) (v : Value) (zs : List Int) (D : Nat) : Prop :=
  ∃ k : Nat, k ≤ zs.length ∧ Blk w D 49 #[v, .int .i64 k] ∧ IntsIn .i64 w v zs ∧ (∀ a n c, v = .slice (some a) n c → a.block < D) ∧ zs.length ≤ maxLen ∧ ∀ z ∈ zs, -9223372036854775808 ≤ z ∧ z ≤ 9223372036854775807
theorem Deck.tag {w : World} {v : Value} {zs : List Int} {D : Nat} (h : Deck w v zs D) : tagOf w D = some 49 := by
  obtain ⟨k, _, h, _⟩ := h
  exact h.tag
theorem Deck.lt {w : World} {v : Value} {zs : List Int} {D : Nat} (h : Deck w v zs D) : D < w.heap.size := by
  obtain ⟨k, _, h, _⟩ := h
  exact h.lt
theorem ints_keep {k : IntKind} {w w' : World} {v : Value} {zs : List Int} (h : IntsIn k w v zs) (hs : w.heap.size ≤ w'.heap.size) (hc : ∀ a n c, v = .slice (some a) n c → a.block < w.heap.size → ∀ f, w'.cell? ⟨a.block, f, none⟩ = w.cell? ⟨a.block, f, none⟩) : IntsIn k w' v zs := by
  rcases h with h | ⟨b, off, c, h0, hv, hlt, hcs⟩
  · exact .inl h
  · exact .inr ⟨b, off, c, h0, hv, by omega, fun i hi => (hc _ _ _ hv hlt _).trans (hcs i hi)⟩
/-- The deck is kept where its block and the list are. -/
theorem Deck.keep {w w' : World} {v : Value} {zs : List Int} {D : Nat} (h : Deck w v zs D) (hs : w.heap.size ≤ w'.heap.size) (hD : w'.heap[D]? = w.heap[D]?) (hl : ∀ b, b < D → w'.heap[b]? = w.heap[b]?) : Deck w' v zs D := by
  obtain ⟨k, hk, hb, hi, hv, hm, hz⟩ := h
  exact ⟨k, hk, hD.trans hb, ints_keep hi hs fun a n c e _ f => World.cell?_of_block (hl _ (hv a n c e)), hv, hm, hz⟩
theorem Deck.below {w w' : World} {v : Value} {zs : List Int} {D : Nat} (h : Deck w v zs D) (hb : Below w.heap.size w w') : Deck w' v zs D :=
  h.keep hb.size (hb.block D h.lt) fun b hlt => hb.block b (by have := h.lt; omega)
end Go.Proofs.YtbppfhlpielpcaaDoor
namespace Go.Proofs.YtbppfhlpielpcaaDoor
open Go.RowKit
set_option linter.unusedVariables false

theorem tmod_mod (z n : Int) : (z.tmod n + n) % n = z % n := by
  have h := Int.mul_tdiv_add_tmod z n
  rw [Int.add_emod_right]
  conv => rhs; rw [← h]
  rw [Int.add_comm, Int.add_mul_emod_self_left]
theorem tmod_lo (z n : Int) (h : 0 < n) : -n < z.tmod n := by
  have h1 : (-z).tmod n < n := Int.tmod_lt_of_pos (-z) h
  rw [Int.neg_tmod] at h1
  omega
theorem g_int {k : IntKind} {a b : Int} (h : a = b) : Ending.returned (.int k a) = .returned (.int k b) := by rw [h]
theorem gmod_any (z n : Int) (hz : -9223372036854775808 ≤ z ∧ z ≤ 9223372036854775807) (hn : 1 ≤ n ∧ n ≤ 1000000) (w : World) :
    Calls Tryd.prog 9 #[.int .i64 z, .int .i64 n] w fun e w' => e = .returned (.int .i64 (z % n)) ∧ w = w' := by
  obtain ⟨h1, h2⟩ := hz
  obtain ⟨h3, h4⟩ := hn
  have hne : ¬ n = 0 := by omega
  have a1 : -n < z.tmod n := tmod_lo z n (by omega)
  have a2 : z.tmod n < n := Int.tmod_lt_of_pos z (by omega)
  go_enter Tryd.func9, Tryd.ntmps9
  go_wp2
  go_ret
  exact ⟨g_int (tmod_mod z n), rfl⟩

theorem Deck.drewN {w : World} {v : Value} {zs : List Int} {D : Nat} (h : Deck w v zs D) (n : Nat) : Deck (w.drewN n) v zs D := h
theorem deck_set {w : World} {D len b off c k : Nat} {zs : List Int} (hb : Blk w D 49 #[.slice (some ⟨b, off, none⟩) zs.length c, .int .i64 k]) (hi : IntsIn .i64 w (.slice (some ⟨b, off, none⟩) len c) zs)
    (hv : ∀ (a : Addr) (n c' : Nat), Value.slice (some ⟨b, off, none⟩) zs.length c = .slice (some a) n c' → a.block < D) (hl : zs.length = len) (hm : len ≤ 9223372036854775807) (hz : ∀ z ∈ zs, -9223372036854775808 ≤ z ∧ z ≤ 9223372036854775807) (hk : k < len) (q : Nat) :
    Deck ((w.drewN q).setCell ⟨D, 1, none⟩ (.int .i64 ((k : Int) + 1))) (.slice (some ⟨b, off, none⟩) zs.length c) zs D := by
  subst hl
  have hbD : b < D := hv _ _ _ rfl
  refine ⟨k + 1, hk, ?_, ?_, hv, by unfold maxLen; omega, hz⟩
  · have h := (hb.drewN q).set 1 (.int .i64 ((k : Int) + 1))
    exact h
  · exact ints_keep hi (by simp) fun a n c' e hlt f => by
      have e2 : a = ⟨b, off, none⟩ := by injection e with e _ _; injection e with e; exact e.symm
      subst e2
      exact World.cell?_of_block (Below.heap_setCell _ _ _ _ (by show b ≠ D; omega))
theorem gen_set (w : World) (D q : Nat) (u : Value) : Gen D D w.heap.size w ((w.drewN q).setCell ⟨D, 1, none⟩ u) := (Gen.drewN D D w.heap.size w q).set (.inl rfl) u
/-- What Next leaves. -/
def Nexted (n : Int) (D : Nat) (v : Value) (zs : List Int) (w : World) (e : Ending) (w' : World) : Prop :=
  ∃ r : Int, e = .returned (.int .i64 r) ∧ 0 ≤ r ∧ (r < n ∨ r = 0) ∧ Deck w' v zs D ∧ Gen D D w.heap.size w w'
set_option maxHeartbeats 400000 in
theorem next_any (n : Int) (D : Nat) (v : Value) (zs : List Int) (w : World) (h : Deck w v zs D) (hn : 0 ≤ n ∧ n ≤ 1000000) :
    Calls Tryd.prog 30 #[.pointer (some ⟨D, 0, none⟩), .int .i64 n] w fun e w' => Nexted n D v zs w e w' := by
  obtain ⟨n0, n1⟩ := hn
  have hD := Lib.hid h
  obtain ⟨k, hk, hb, hi, hv, hm, hz⟩ := h
  unfold maxLen at hm
  have c0 : w.cell? ⟨D, 0, none⟩ = some v := hb.cell 0
  have c1 : w.cell? ⟨D, 1, none⟩ = some (.int .i64 k) := hb.cell 1
  have f1 : w.frozen? ⟨D, 1, none⟩ = false := hb.frozen 1
  by_cases hlt : k < zs.length
  · rcases hi with ⟨rfl, _⟩ | ⟨b, off, c, h0, rfl, hbl, hc⟩
    · simp at hlt
    · have hbD : b < D := hv _ _ _ rfl
      obtain ⟨len, hl⟩ : ∃ len, zs.length = len := ⟨_, rfl⟩
      rw [hl] at hlt hk hm h0 hc
      have HL := Lib.hid hl
      rw [hl] at c0
      have HB := Lib.hid hb
      have HI : Hid (IntsIn .i64 w (.slice (some ⟨b, off, none⟩) len c) zs) := by rw [← HL.out]; exact .inr ⟨b, off, c, by rw [HL.out]; exact h0, rfl, hbl, by rw [HL.out]; exact hc⟩
      have cz := hc k hlt
      have hzk := hz (zs.getD k 0) (by rw [List.getD_eq_getElem?_getD, List.getElem?_eq_getElem (by rw [hl]; exact hlt)]; simp)
      have HC := Lib.hid hc
      have HZ := Lib.hid hz
      have HV := Lib.hid hv
      clear hc hl hb hz hv
      generalize zs.getD k 0 = z at *
      have d1 : decide (len ≤ k) = false := by simp; omega
      by_cases h1 : n ≤ 1
      · have d2 : decide (n ≤ 1) = true := by simpa using h1
        go_enter Tryd.func30, Tryd.ntmps30
        go_wp2
        go_quiet (fail)
        go_wp2
        go_ret
        exact ⟨0, rfl, by omega, .inr rfl, hD.out.drewN _, Gen.drewN _ _ _ _ _⟩
      · have d2 : decide (n ≤ 1) = false := by simp; omega
        have h2 : 2 ≤ n := by omega
        clear h1
        have hk1 : ((k : Int) + 1 - 1) = k := by omega
        have HK := Lib.hid hk1
        clear hk1
        go_enter Tryd.func30, Tryd.ntmps30
        go_wp2
        go_quiet (fail)
        go_wp2
        go_quiet ((go_at_call 9; exact Calls.quiet_of_same ((gmod_any z n hzk (by omega) _).mono fun _ _ h => ⟨h.1, h.2.symm⟩)))
        go_wp2
        go_ret
        exact ⟨z % n, rfl, Int.emod_nonneg z (by omega), .inl (Int.emod_lt_of_pos z (by omega)), (deck_set HB.out HI.out HV.out HL.out hm HZ.out hlt _).drewN _, (gen_set w D _ _).trans (Gen.drewN _ _ _ _ _)⟩
  · have d1 : decide (zs.length ≤ k) = true := by simp; omega
    obtain ⟨A, c, rfl⟩ : ∃ A c, v = .slice A zs.length c := by
      rcases hi with ⟨e, A, c, rfl⟩ | ⟨b, off, c, _, rfl, _⟩
      · rw [e]; exact ⟨A, c, rfl⟩
      · exact ⟨_, c, rfl⟩
    have HB := Lib.hid hb
    have HI := Lib.hid hi
    have HZ := Lib.hid hz
    have HV := Lib.hid hv
    clear hb hi hz hv
    go_enter Tryd.func30, Tryd.ntmps30
    go_wp2
    go_quiet (fail)
    go_wp2
    go_ret
    exact ⟨0, rfl, by omega, .inr rfl, hD.out.drewN _, Gen.drewN _ _ _ _ _⟩

theorem pow_in (m : Nat) (h : m ≤ 30) : -2147483648 ≤ wrap64 ((2 : Int) ^ m) ∧ wrap64 ((2 : Int) ^ m) ≤ 2147483647 :=
  (show ∀ k, k < 31 → -2147483648 ≤ wrap64 ((2 : Int) ^ k) ∧ wrap64 ((2 : Int) ^ k) ≤ 2147483647 by decide +kernel) m (by omega)
theorem word_any' (D : Nat) (v : Value) (zs : List Int) (w : World) (h : Deck w v zs D) :
    Calls Tryd.prog 80 #[.pointer (some ⟨D, 0, none⟩)] w fun e w' => ∃ r : Int, e = .returned (.int .i64 r) ∧ -2147483648 ≤ r ∧ r ≤ 2147483647 ∧ Deck w' v zs D ∧ Gen D D w.heap.size w w' := by
  have H := Lib.hid h
  clear h
  go_enter Tryd.func80, Tryd.ntmps80
  go_wp2_with fail
  refine (next_any 8 D v zs _ H.out (by omega)).mono ?_
  rintro e w1 ⟨r, rfl, hr0, hr1, hd1, hg1⟩
  have H1 := Lib.hid (And.intro hd1 hg1)
  clear hd1 hg1
  have hr : r = 0 ∨ r = 1 ∨ r = 2 ∨ r = 3 ∨ 4 ≤ r := by omega
  clear hr1
  rcases hr with rfl | rfl | rfl | rfl | hr
  · go_wp2_with fail
    refine (next_any 20 D v zs _ H1.out.1 (by omega)).mono ?_
    rintro e w2 ⟨q, rfl, hq0, hq1, hd2, hg2⟩
    have hq2 : q ≤ 19 := by omega
    have H2 := Lib.hid (And.intro hd2 hg2)
    clear hd2 hg2 hq1
    go_wp2_with fail
    go_ret
    exact ⟨-q, rfl, by omega, by omega, H2.out.1, H1.out.2.trans (H2.out.2.only D _)⟩
  · go_wp2_with fail
    refine (next_any 5 D v zs _ H1.out.1 (by omega)).mono ?_
    rintro e w2 ⟨q, rfl, hq0, hq1, hd2, hg2⟩
    have hq2 : q ≤ 4 := by omega
    have H2 := Lib.hid (And.intro hd2 hg2)
    clear hd2 hg2 hq1
    go_wp2_with fail
    go_ret
    exact ⟨2147483647 - q, rfl, by omega, by omega, H2.out.1, H1.out.2.trans (H2.out.2.only D _)⟩
  · go_wp2_with fail
    refine (next_any 5 D v zs _ H1.out.1 (by omega)).mono ?_
    rintro e w2 ⟨q, rfl, hq0, hq1, hd2, hg2⟩
    have hq2 : q ≤ 4 := by omega
    have H2 := Lib.hid (And.intro hd2 hg2)
    clear hd2 hg2 hq1
    go_wp2_with fail
    go_ret
    exact ⟨-2147483648 + q, rfl, by omega, by omega, H2.out.1, H1.out.2.trans (H2.out.2.only D _)⟩
  · go_wp2_with fail
    refine (next_any 31 D v zs _ H1.out.1 (by omega)).mono ?_
    rintro e w2 ⟨q, rfl, hq0, hq1, hd2, hg2⟩
    have hq2 : q ≤ 30 := by omega
    have H2 := Lib.hid (And.intro hd2 hg2)
    clear hd2 hg2 hq1
    obtain ⟨m, rfl⟩ := Int.eq_ofNat_of_zero_le hq0
    have hm : m ≤ 30 := by omega
    clear hq0 hq2
    go_wp2_with fail
    go_ret
    exact ⟨wrap64 ((2 : Int) ^ m), rfl, (pow_in m hm).1, (pow_in m hm).2, H2.out.1, H1.out.2.trans (H2.out.2.only D _)⟩
  · have b0 : (r == 0) = false := by simp; omega
    have b1 : (r == 1) = false := by simp; omega
    have b2 : (r == 2) = false := by simp; omega
    have b3 : (r == 3) = false := by simp; omega
    go_wp2_with fail
    refine (next_any 20 D v zs _ H1.out.1 (by omega)).mono ?_
    rintro e w2 ⟨q, rfl, hq0, hq1, hd2, hg2⟩
    have hq2 : q ≤ 19 := by omega
    have H2 := Lib.hid (And.intro hd2 hg2)
    clear hd2 hg2 hq1
    go_wp2_with fail
    go_ret
    exact ⟨q, rfl, by omega, by omega, H2.out.1, H1.out.2.trans (H2.out.2.only D _)⟩
theorem gop_any (D : Nat) (v : Value) (zs : List Int) (w : World) (h : Deck w v zs D) :
    Calls Tryd.prog 83 #[.pointer (some ⟨D, 0, none⟩)] w fun e w' => ∃ r : Int, e = .returned (.int .i64 r) ∧ 1 ≤ r ∧ r ≤ 14 ∧ Deck w' v zs D ∧ Gen D D w.heap.size w w' := by
  have H := Lib.hid h
  clear h
  go_enter Tryd.func83, Tryd.ntmps83
  go_wp2_with fail
  refine (next_any 14 D v zs _ H.out (by omega)).mono ?_
  rintro e w1 ⟨r, rfl, hr0, hr1, hd1, hg1⟩
  have H1 := Lib.hid (And.intro hd1 hg1)
  clear hd1 hg1
  have hr2 : r ≤ 13 := by omega
  go_wp2_with fail
  go_ret
  exact ⟨1 + r, rfl, by omega, by omega, H1.out.1, H1.out.2⟩
theorem num_any (n : Int) (w : World) :
    Calls Tryd.prog 81 #[.int .i64 n] w fun e w' => e = .returned (.agg #[.int .i64 1, .int .i64 n, .string ⟨#[]⟩, .int .i64 0, .slice none 0 0]) ∧ Below w.heap.size w w' := by
  go_enter Tryd.func81, Tryd.ntmps81
  go_wp2_with fail
  exact bodyPost_ret (v := .agg #[.int .i64 1, .int .i64 n, .string ⟨#[]⟩, .int .i64 0, .slice none 0 0]) (by simp [results, Tryd.results81, go_sem]) rfl ⟨rfl, (Below.refl _ _).alloc (Nat.le_refl _) _⟩
theorem nam_any (s : ByteArray) (w : World) :
    Calls Tryd.prog 84 #[.string s] w fun e w' => e = .returned (.agg #[.int .i64 2, .int .i64 0, .string s, .int .i64 0, .slice none 0 0]) ∧ Below w.heap.size w w' := by
  go_enter Tryd.func84, Tryd.ntmps84
  go_wp2_with fail
  exact bodyPost_ret (v := .agg #[.int .i64 2, .int .i64 0, .string s, .int .i64 0, .slice none 0 0]) (by simp [results, Tryd.results84, go_sem]) rfl ⟨rfl, (Below.refl _ _).alloc (Nat.le_refl _) _⟩
theorem blk_new {w : World} {t : TypeId} {cs : Array Value} {g : Nat} (h : g = w.heap.size) : Blk (w.alloc (.cells cs t)) g t cs := by subst h; exact Blk.new w t cs
theorem bin_any (op k1 n1 o1 k2 n2 o2 : Int) (s1 s2 : ByteArray) (A1 A2 : Option Addr) (l1 l2 c1 c2 : Nat) (w : World) :
    Calls Tryd.prog 82 #[.int .i64 op, .agg #[.int .i64 k1, .int .i64 n1, .string s1, .int .i64 o1, .slice A1 l1 c1], .agg #[.int .i64 k2, .int .i64 n2, .string s2, .int .i64 o2, .slice A2 l2 c2]] w fun e w' =>
      ∃ g, e = .returned (.agg #[.int .i64 4, .int .i64 0, .string ⟨#[]⟩, .int .i64 op, .slice (some ⟨g, 0, none⟩) 2 2]) ∧ w.heap.size ≤ g ∧
        Blk w' g 91 #[.int .i64 k1, .int .i64 n1, .string s1, .int .i64 o1, .slice A1 l1 c1, .int .i64 k2, .int .i64 n2, .string s2, .int .i64 o2, .slice A2 l2 c2] ∧ Below w.heap.size w w' := by
  go_enter Tryd.func82, Tryd.ntmps82
  go_wp2_with fail
  exact bodyPost_ret (v := .agg #[.int .i64 4, .int .i64 0, .string ⟨#[]⟩, .int .i64 op, .slice (some ⟨w.heap.size + 1 + 1 + 1, 0, none⟩) 2 2]) (by simp [results, Tryd.results82, go_sem]) rfl
    ⟨w.heap.size + 1 + 1 + 1, rfl, by omega, blk_new (by simp), ((((Below.refl _ _).alloc (Nat.le_refl _) _).alloc (by simp) _).alloc (by simp; omega) _).alloc (by simp; omega) _⟩
end Go.Proofs.YtbppfhlpielpcaaDoor
namespace Go.Proofs.YtbppfhlpielpcaaDoor
open Go.RowKit
set_option linter.unusedVariables false

/-! ### Names, expressions, statements as the generator makes them -/
def nameList : List ByteArray := [⟨#[120]⟩, ⟨#[121]⟩, ⟨#[105]⟩, ⟨#[107]⟩, ⟨#[110]⟩, ⟨#[97]⟩, ⟨#[98, 117, 102]⟩, ⟨#[114]⟩, ⟨#[115]⟩]
def Nm (s : ByteArray) : Prop := s ∈ nameList
theorem Nm.size {s : ByteArray} (h : Nm s) : s.size ≤ 3 ∧ 0 < s.size := by
  unfold Nm nameList at h
  simp only [List.mem_cons, List.not_mem_nil, or_false] at h
  rcases h with rfl | rfl | rfl | rfl | rfl | rfl | rfl | rfl | rfl <;> exact ⟨by decide, by decide⟩
/-- An expression's node, with so many arguments. -/
def Node (k n : Int) (s : ByteArray) (o : Int) (l : Nat) : Prop :=
  (k = 1 ∧ (-2147483647 ≤ n ∧ n ≤ 2147483647) ∧ s = ⟨#[]⟩ ∧ o = 0 ∧ l = 0) ∨ (k = 2 ∧ n = 0 ∧ Nm s ∧ o = 0 ∧ l = 0) ∨ (k = 3 ∧ n = 0 ∧ Nm s ∧ o = 0 ∧ l = 1) ∨ (k = 4 ∧ n = 0 ∧ s = ⟨#[]⟩ ∧ (1 ≤ o ∧ o ≤ 14) ∧ l = 2)
def Exs.Good : Exs → Prop
  | .nil => True
  | .cons k n s o a r => Node k n s o a.len ∧ a.Good ∧ r.Good
theorem Node.wf {k n o : Int} {s : ByteArray} {l : Nat} (h : Node k n s o l) : (-9223372036854775808 ≤ k ∧ k ≤ 9223372036854775807) ∧ (-9223372036854775808 ≤ n ∧ n ≤ 9223372036854775807) ∧ (-9223372036854775808 ≤ o ∧ o ≤ 9223372036854775807) ∧ s.size ≤ maxLen ∧ l ≤ maxLen := by
  unfold maxLen
  rcases h with ⟨rfl, h, rfl, rfl, rfl⟩ | ⟨rfl, rfl, h, rfl, rfl⟩ | ⟨rfl, rfl, h, rfl, rfl⟩ | ⟨rfl, rfl, rfl, h, rfl⟩
  · exact ⟨by omega, by omega, by omega, by decide, by omega⟩
  · have := h.size; exact ⟨by omega, by omega, by omega, by omega, by omega⟩
  · have := h.size; exact ⟨by omega, by omega, by omega, by omega, by omega⟩
  · exact ⟨by omega, by omega, by omega, by decide, by omega⟩
theorem Exs.Good.wf : ∀ {t : Exs}, t.Good → t.Wf
  | .nil, _ => trivial
  | .cons k n s o a r, ⟨h, ha, hr⟩ => by
    obtain ⟨h1, h2, h3, h4, h5⟩ := h.wf
    exact ⟨h1, h2, h3, h4, h5, Exs.Good.wf ha, Exs.Good.wf hr⟩
/-- An expression that lies in new blocks, from m on. -/
def ExOut (m h : Nat) (w : World) (k n : Int) (s : ByteArray) (o : Int) (a : Exs) (A : Option Addr) (c : Nat) : Prop :=
  a.len ≤ c ∧ Node k n s o a.len ∧ a.Good ∧ a.height + 1 ≤ h ∧ a.At w (Fr m w) A
theorem at_row1 {w : World} {m g : Nat} {k n o : Int} {s : ByteArray} {a : Exs} {A : Option Addr} {c : Nat} (hb : Blk w g 91 #[.int .i64 k, .int .i64 n, .string s, .int .i64 o, .slice A a.len c]) (hg : m ≤ g) (hc : a.len ≤ c) (ha : a.At w (Fr m w) A) :
    (Exs.cons k n s o a .nil).At w (Fr m w) (some ⟨g, 0, none⟩) :=
  ⟨g, 0, rfl, ⟨hg, .inl hb.tag⟩, hb.lt, hb.cell 0, hb.cell 1, hb.cell 2, hb.cell 3, ⟨A, c, hb.cell 4, hc, ha⟩, trivial⟩
theorem at_row2 {w : World} {m g : Nat} {k n o k' n' o' : Int} {s s' : ByteArray} {a a' : Exs} {A A' : Option Addr} {c c' : Nat} (hb : Blk w g 91 #[.int .i64 k, .int .i64 n, .string s, .int .i64 o, .slice A a.len c, .int .i64 k', .int .i64 n', .string s', .int .i64 o', .slice A' a'.len c']) (hg : m ≤ g) (hc : a.len ≤ c) (ha : a.At w (Fr m w) A) (hc' : a'.len ≤ c') (ha' : a'.At w (Fr m w) A') :
    (Exs.cons k n s o a (.cons k' n' s' o' a' .nil)).At w (Fr m w) (some ⟨g, 0, none⟩) :=
  ⟨g, 0, rfl, ⟨hg, .inl hb.tag⟩, hb.lt, hb.cell 0, hb.cell 1, hb.cell 2, hb.cell 3, ⟨A, c, hb.cell 4, hc, ha⟩, g, 5, rfl, ⟨hg, .inl hb.tag⟩, hb.lt, hb.cell 5, hb.cell 6, hb.cell 7, hb.cell 8, ⟨A', c', hb.cell 9, hc', ha'⟩, trivial⟩

/-! ### The maker -/
/-- What does not change: the blocks of the deck and of the maker, from where on rows of loops lie; the list; the names. -/
structure Cx where
  (D M B : Nat) (v : Value) (zs : List Int) (vs ars : List ByteArray) (va aa sa : Option Addr) (vc ac sc : Nat) (ss : List (ByteArray × Int × ByteArray))
/-- What changes. -/
structure Ms where
  (la : Option Addr) (lc : Nat) (ls : List ByteArray) (held : ByteArray) (lab stm inl : Int)
def StrsAt (C : Cx) (w : World) (A : Option Addr) (c : Nat) (l : List ByteArray) : Prop :=
  (l = [] ∧ A = none ∧ c = 0) ∨ ∃ b f, A = some ⟨b, f, none⟩ ∧ l.length ≤ c ∧ b < C.B ∧ b < w.heap.size ∧ b ≠ C.D ∧ b ≠ C.M ∧ ∀ i, i < l.length → w.cell? ⟨b, f + i, none⟩ = some (.string (l.getD i ⟨#[]⟩))
def ShAt (C : Cx) (w : World) (A : Option Addr) (c : Nat) (l : List (ByteArray × Int × ByteArray)) : Prop :=
  (l = [] ∧ A = none ∧ c = 0) ∨ ∃ b f, A = some ⟨b, f, none⟩ ∧ l.length ≤ c ∧ b < C.B ∧ b < w.heap.size ∧ b ≠ C.D ∧ b ≠ C.M ∧ ∀ i, i < l.length → w.cell? ⟨b, f + i * 3, none⟩ = some (.string (l.getD i (⟨#[]⟩, 0, ⟨#[]⟩)).1) ∧
    w.cell? ⟨b, f + i * 3 + 1, none⟩ = some (.int .i64 (l.getD i (⟨#[]⟩, 0, ⟨#[]⟩)).2.1) ∧ w.cell? ⟨b, f + i * 3 + 2, none⟩ = some (.string (l.getD i (⟨#[]⟩, 0, ⟨#[]⟩)).2.2)
structure Mks (C : Cx) (s : Ms) (w : World) : Prop where
  deck : Deck w C.v C.zs C.D
  blk : Blk w C.M 94 #[.pointer (some ⟨C.D, 0, none⟩), .slice C.va C.vs.length C.vc, .slice s.la s.ls.length s.lc, .slice C.aa C.ars.length C.ac, .slice C.sa C.ss.length C.sc, .string s.held, .int .i64 s.lab, .int .i64 s.stm, .int .i64 s.inl]
  vars : StrsAt C w C.va C.vc C.vs
  arrs : StrsAt C w C.aa C.ac C.ars
  shrd : ShAt C w C.sa C.sc C.ss
  row : w.ownsRow C.B 9 1 (.slice s.la s.ls.length s.lc) s.ls.length (s.ls.map Value.string)
  nums : 0 < C.vs.length ∧ C.vs.length ≤ 5 ∧ C.ars.length ≤ 1 ∧ C.ss.length ≤ 1 ∧ (∀ x ∈ C.vs, Nm x) ∧ (∀ x ∈ C.ars, Nm x) ∧ (∀ x ∈ C.ss, Nm x.1 ∧ Nm x.2.2) ∧ C.D < C.B ∧ C.M < C.B ∧ C.D < C.M
  base : C.B ≤ w.heap.size
  lims : s.ls.length ≤ 2 ∧ (∀ x ∈ s.ls, Nm x) ∧ (0 ≤ s.lab ∧ s.lab ≤ 12) ∧ (0 ≤ s.stm ∧ s.stm ≤ 100) ∧ (0 ≤ s.inl ∧ s.inl ≤ 2) ∧ (s.ls.length : Int) ≤ s.inl ∧ (s.held = ⟨#[]⟩ ∨ Nm s.held)
section
variable {C : Cx} {s : Ms} {w w' : World}
theorem StrsAt.keep {A : Option Addr} {c : Nat} {l : List ByteArray} (h : StrsAt C w A c l) (hs : w.heap.size ≤ w'.heap.size) (hk : ∀ b, b < w.heap.size → b < C.B → b ≠ C.D → b ≠ C.M → w'.heap[b]? = w.heap[b]?) : StrsAt C w' A c l := by
  rcases h with h | ⟨b, f, e, hc, hB, hl, hD, hM, hi⟩
  · exact .inl h
  · exact .inr ⟨b, f, e, hc, hB, by omega, hD, hM, fun i h => (World.cell?_of_block (hk b hl hB hD hM)).trans (hi i h)⟩
theorem ShAt.keep {A : Option Addr} {c : Nat} {l : List (ByteArray × Int × ByteArray)} (h : ShAt C w A c l) (hs : w.heap.size ≤ w'.heap.size) (hk : ∀ b, b < w.heap.size → b < C.B → b ≠ C.D → b ≠ C.M → w'.heap[b]? = w.heap[b]?) : ShAt C w' A c l := by
  rcases h with h | ⟨b, f, e, hc, hB, hl, hD, hM, hi⟩
  · exact .inl h
  · refine .inr ⟨b, f, e, hc, hB, by omega, hD, hM, fun i h => ?_⟩
    obtain ⟨h1, h2, h3⟩ := hi i h
    have hk' := fun o => World.cell?_of_block (a := ⟨b, o, none⟩) (hk b hl hB hD hM)
    exact ⟨(hk' _).trans h1, (hk' _).trans h2, (hk' _).trans h3⟩
theorem Mks.rowBlk (h : Mks C s w) : ∀ k, (Value.slice s.la s.ls.length s.lc).ownBlock = some k → C.B ≤ k ∧ k < w.heap.size := h.row.lt
/-- A step that leaves all blocks but the deck's. -/
theorem Mks.deckStep (h : Mks C s w) (hd : Deck w' C.v C.zs C.D) (hg : Gen C.D C.D w.heap.size w w') : Mks C s w' := by
  have hn := h.nums
  have hk : ∀ b, b < w.heap.size → b ≠ C.D → w'.heap[b]? = w.heap[b]? := fun b hb hD => hg.block b hb hD hD (fun hB => by omega)
  refine ⟨hd, (hk _ h.blk.lt (by have := hn.2.2.2.2.2.2.2.2.2; omega)).trans h.blk, h.vars.keep hg.size fun b hl _ hD _ => hk b hl hD, h.arrs.keep hg.size fun b hl _ hD _ => hk b hl hD, h.shrd.keep hg.size fun b hl _ hD _ => hk b hl hD, ?_, hn, Nat.le_trans h.base hg.size, h.lims⟩
  refine h.row.kept (row := some C.D) ⟨hg.os, hg.tape, hg.output, hg.size, fun b hb hD => hk b hb (fun e => hD (by rw [e]))⟩ ?_
  right
  intro e
  have := h.rowBlk _ e
  omega
theorem Mks.below (h : Mks C s w) (hb : Below w.heap.size w w') : Mks C s w' := by
  refine ⟨h.deck.below hb, h.blk.below hb h.blk.lt, h.vars.keep hb.size fun b hl _ _ _ => hb.block b hl, h.arrs.keep hb.size fun b hl _ _ _ => hb.block b hl, h.shrd.keep hb.size fun b hl _ _ _ => hb.block b hl, ?_, h.nums, Nat.le_trans h.base hb.size, h.lims⟩
  exact h.row.kept (row := none) ⟨hb.os, hb.tape, hb.output, hb.size, fun b hl _ => hb.block b hl⟩ (by cases (Value.slice s.la s.ls.length s.lc).ownBlock <;> simp)
theorem Mks.drewN (h : Mks C s w) (n : Nat) : Mks C s (w.drewN n) := h.below ⟨rfl, rfl, rfl, Nat.le_refl _, fun _ _ => rfl⟩
theorem Mks.alloc (h : Mks C s w) (o : Obj) : Mks C s (w.alloc o) := h.below ((Below.refl _ _).alloc (Nat.le_refl _) o)
/-- A store into a block that is none of the maker's. -/
theorem Mks.far (h : Mks C s w) {g : Nat} {t : TypeId} {cs : Array Value} (hg : Blk w g t cs) (ht : t = 91 ∨ t = 88) (hB : C.B ≤ g) (i : Nat) (u : Value) : Mks C s (w.setCell ⟨g, i, none⟩ u) := by
  have hn := h.nums
  have hk : ∀ b, b ≠ g → (w.setCell ⟨g, i, none⟩ u).heap[b]? = w.heap[b]? := fun b hb => Below.heap_setCell w _ u b hb
  have hrow : ∀ k, (Value.slice s.la s.ls.length s.lc).ownBlock = some k → k ≠ g := by
    intro k e he
    subst he
    rcases h.row.2 with ⟨e2, _⟩ | ⟨g', cap, cur, e2, _, hh, _⟩
    · rw [e2] at e; simp [Value.ownBlock] at e
    · rw [e2] at e
      have : g' = k := by simpa [Value.ownBlock] using e
      subst this
      unfold Blk at hg
      rw [hh] at hg
      injection hg with hg
      injection hg with _ hg
      rcases ht with ht | ht <;> rw [ht] at hg <;> exact absurd hg (by decide)
  refine ⟨h.deck.keep (by simp) (hk _ (by omega)) fun b hb => hk b (by have := hn.2.2.2.2.2.2.2.1; omega), (hk _ (by omega)).trans h.blk, h.vars.keep (by simp) fun b _ hB' _ _ => hk b (by omega), h.arrs.keep (by simp) fun b _ hB' _ _ => hk b (by omega), h.shrd.keep (by simp) fun b _ hB' _ _ => hk b (by omega), ?_, hn, by simpa using h.base, h.lims⟩
  refine h.row.kept (row := some g) ⟨rfl, rfl, rfl, by simp, fun b hb hne => hk b (fun e => hne (by rw [e]))⟩ ?_
  right
  intro e
  exact hrow _ e rfl
theorem Mks.dTag (h : Mks C s w) : tagOf w C.D = some 49 := h.deck.tag
theorem Mks.mTag (h : Mks C s w) : tagOf w C.M = some 49 ∨ tagOf w C.M = some 94 := .inr h.blk.tag
/-- Trees are kept by a step of the generator. -/
theorem Mks.tree (h : Mks C s w) (hg : Gen C.D C.M C.B w w') {t : Exs} {A : Option Addr} {n m : Nat} (hmn : m ≤ n) (ha : t.At w (Fr n w) A) : t.At w' (Fr m w') A := ha.keep hg.size (hg.fr h.dTag h.mTag hmn)
theorem Mks.trees (h : Mks C s w) (hg : Gen C.D C.M C.B w w') {t : Sts} {A : Option Addr} {n m : Nat} (hmn : m ≤ n) (ha : t.At w (Fr n w) A) : t.At w' (Fr m w') A := ha.keep hg.size (hg.fr h.dTag h.mTag hmn)
theorem ExOut.step (h : Mks C s w) (hg : Gen C.D C.M C.B w w') {n m ht : Nat} {k z o : Int} {x : ByteArray} {a : Exs} {A : Option Addr} {c : Nat} (hmn : m ≤ n) (he : ExOut n ht w k z x o a A c) : ExOut m ht w' k z x o a A c :=
  ⟨he.1, he.2.1, he.2.2.1, he.2.2.2.1, h.tree hg hmn he.2.2.2.2⟩
theorem ExOut.below {n m ht : Nat} {k z o : Int} {x : ByteArray} {a : Exs} {A : Option Addr} {c : Nat} (hb : Below w.heap.size w w') (hmn : m ≤ n) (he : ExOut n ht w k z x o a A c) : ExOut m ht w' k z x o a A c :=
  ⟨he.1, he.2.1, he.2.2.1, he.2.2.2.1, he.2.2.2.2.keep hb.size (below_fr hb hmn)⟩
theorem ExOut.set {g i : Nat} {u : Value} {n m ht : Nat} {k z o : Int} {x : ByteArray} {a : Exs} {A : Option Addr} {c : Nat} (hgn : g < n) (hmn : m ≤ n) (he : ExOut n ht w k z x o a A c) : ExOut m ht (w.setCell ⟨g, i, none⟩ u) k z x o a A c :=
  ⟨he.1, he.2.1, he.2.2.1, he.2.2.2.1, he.2.2.2.2.keep (by simp) (set_fr hgn hmn)⟩
end

/-- A block of expressions or statements is kept by a step of the generator. -/
theorem Mks.res {C : Cx} {s : Ms} {w w' : World} (h : Mks C s w) (hg : Gen C.D C.M C.B w w') {g : Nat} {t : TypeId} {cs : Array Value} (hb : Blk w g t cs) (ht : t = 91 ∨ t = 88) : Blk w' g t cs :=
  (hg.tr h.dTag h.mTag (by rcases ht with rfl | rfl; exact .inl hb.tag; exact .inr hb.tag) hb.lt).trans hb
/-! ### The deck's functions, seen from the maker -/
section
variable {C : Cx} {s : Ms} {w : World}
theorem next_mk (h : Mks C s w) (n : Int) (hn : 0 ≤ n ∧ n ≤ 1000000) :
    Calls Tryd.prog 30 #[.pointer (some ⟨C.D, 0, none⟩), .int .i64 n] w fun e w' => ∃ r : Int, e = .returned (.int .i64 r) ∧ 0 ≤ r ∧ (r < n ∨ r = 0) ∧ Mks C s w' ∧ Gen C.D C.M C.B w w' :=
  (next_any n C.D C.v C.zs w h.deck hn).mono fun e w' ⟨r, he, h0, h1, hd, hg⟩ => ⟨r, he, h0, h1, h.deckStep hd hg, hg.only _ _⟩
theorem word_mk (h : Mks C s w) :
    Calls Tryd.prog 80 #[.pointer (some ⟨C.D, 0, none⟩)] w fun e w' => ∃ r : Int, e = .returned (.int .i64 r) ∧ -2147483648 ≤ r ∧ r ≤ 2147483647 ∧ Mks C s w' ∧ Gen C.D C.M C.B w w' :=
  (word_any' C.D C.v C.zs w h.deck).mono fun e w' ⟨r, he, h0, h1, hd, hg⟩ => ⟨r, he, h0, h1, h.deckStep hd hg, hg.only _ _⟩
theorem gop_mk (h : Mks C s w) :
    Calls Tryd.prog 83 #[.pointer (some ⟨C.D, 0, none⟩)] w fun e w' => ∃ r : Int, e = .returned (.int .i64 r) ∧ 1 ≤ r ∧ r ≤ 14 ∧ Mks C s w' ∧ Gen C.D C.M C.B w w' :=
  (gop_any C.D C.v C.zs w h.deck).mono fun e w' ⟨r, he, h0, h1, hd, hg⟩ => ⟨r, he, h0, h1, h.deckStep hd hg, hg.only _ _⟩
end
end Go.Proofs.YtbppfhlpielpcaaDoor
namespace Go.Proofs.YtbppfhlpielpcaaDoor
open Go.RowKit
set_option linter.unusedVariables false

/-- A row of names. -/
def Rd (w : World) (b f n : Nat) : Prop := ∀ i, i < n → ∃ x, w.cell? ⟨b, f + i, none⟩ = some (.string x) ∧ Nm x
theorem StrsAt.rd {C : Cx} {w : World} {A : Option Addr} {c : Nat} {l : List ByteArray} (h : StrsAt C w A c l) (hl : 0 < l.length) (hn : ∀ x ∈ l, Nm x) : ∃ b f, A = some ⟨b, f, none⟩ ∧ l.length ≤ c ∧ b < C.B ∧ b < w.heap.size ∧ b ≠ C.D ∧ b ≠ C.M ∧ Rd w b f l.length := by
  rcases h with ⟨rfl, _⟩ | ⟨b, f, e, hc, hB, hlt, hD, hM, hi⟩
  · simp at hl
  · refine ⟨b, f, e, hc, hB, hlt, hD, hM, fun i h => ⟨_, hi i h, hn _ ?_⟩⟩
    rw [List.getD_eq_getElem?_getD, List.getElem?_eq_getElem h]
    exact List.getElem_mem h
section
variable {C : Cx} {s : Ms} {w : World}
theorem Mks.c0 (h : Mks C s w) : w.cell? ⟨C.M, 0, none⟩ = some (.pointer (some ⟨C.D, 0, none⟩)) := h.blk.cell 0
theorem Mks.c1 (h : Mks C s w) : w.cell? ⟨C.M, 1, none⟩ = some (.slice C.va C.vs.length C.vc) := h.blk.cell 1
theorem Mks.c2 (h : Mks C s w) : w.cell? ⟨C.M, 2, none⟩ = some (.slice s.la s.ls.length s.lc) := h.blk.cell 2
theorem Mks.c3 (h : Mks C s w) : w.cell? ⟨C.M, 3, none⟩ = some (.slice C.aa C.ars.length C.ac) := h.blk.cell 3
theorem Mks.c4 (h : Mks C s w) : w.cell? ⟨C.M, 4, none⟩ = some (.slice C.sa C.ss.length C.sc) := h.blk.cell 4
theorem Mks.c5 (h : Mks C s w) : w.cell? ⟨C.M, 5, none⟩ = some (.string s.held) := h.blk.cell 5
theorem Mks.c6 (h : Mks C s w) : w.cell? ⟨C.M, 6, none⟩ = some (.int .i64 s.lab) := h.blk.cell 6
theorem Mks.c7 (h : Mks C s w) : w.cell? ⟨C.M, 7, none⟩ = some (.int .i64 s.stm) := h.blk.cell 7
theorem Mks.c8 (h : Mks C s w) : w.cell? ⟨C.M, 8, none⟩ = some (.int .i64 s.inl) := h.blk.cell 8
theorem name_mk (h : Mks C s w) (b f n c : Nat) (hn : 0 < n) (hm : n ≤ 1000000) (hb : b < w.heap.size) (hD : b ≠ C.D) (hr : Rd w b f n) :
    Calls Tryd.prog 67 #[.pointer (some ⟨C.M, 0, none⟩), .slice (some ⟨b, f, none⟩) n c] w fun e w' => ∃ x, e = .returned (.string x) ∧ Nm x ∧ Mks C s w' ∧ Gen C.D C.M C.B w w' := by
  have c0 := h.c0
  have H := Lib.hid h
  have HR := Lib.hid hr
  clear h hr
  go_enter Tryd.func67, Tryd.ntmps67
  go_wp2_with fail
  refine (next_any n C.D C.v C.zs _ H.out.deck (by omega)).mono ?_
  rintro e w1 ⟨r, rfl, hr0, hr1, hd, hg⟩
  have H1 := Lib.hid (H.out.deckStep hd hg)
  have HG := Lib.hid (hg.only C.M C.B)
  obtain ⟨m, rfl⟩ := Int.eq_ofNat_of_zero_le hr0
  have hmn : m < n := by omega
  obtain ⟨x, hx, hNx⟩ := HR.out m hmn
  have hx1 : w1.cell? ⟨b, f + m, none⟩ = some (.string x) := (World.cell?_of_block (hg.block b hb hD hD (fun _ => by omega))).trans hx
  have HN := Lib.hid hNx
  clear hr0 hr1 hd hg hx c0 hNx
  go_wp2_with fail
  go_ret
  exact ⟨x, rfl, HN.out, H1.out, HG.out⟩
end
end Go.Proofs.YtbppfhlpielpcaaDoor
namespace Go.Proofs.YtbppfhlpielpcaaDoor
open Go.RowKit
set_option linter.unusedVariables false
/-- What is appended: nothing of a nil slice, or cells at an address. -/
def Src (w : World) (size : Nat) (A : Option Addr) (m c : Nat) (news : List Value) : Prop :=
  news.length = m * size ∧ ((A = none ∧ m = 0 ∧ c = 0) ∨ ∃ ad, A = some ad ∧ ∀ j u, news[j]? = some u → w.cell? (ad.add j) = some u)
theorem wpList_append_src {P : Program} {w : World} {ops : Array Oper} {rest : List Oper} {o : Oper} {a : Act} {Q : Exit → Act → World → Prop} (hgd : o.guard = none) (s x : Operand) (t : TypeId)
    (ho : o.op = .call { callee := .builtin .append, args := #[s, x], argTypes := #[t, t] })
    (base : Nat) (e : TypeId) (i : TypeInfo) (z : Value) (size bytes : Nat) (ht : P.underlying t = some (.slice e)) (hi : P.info? e = some i) (hz : i.zero = some z)
    (hsize : i.size = size) (hby : i.bytes = bytes) (hzs : z.cells.size = size) (hsz : 0 < size)
    (v : Value) (n : Nat) (xs : List Value) (hs : a.eval s = v) (hown : w.ownsRow base e size v n xs)
    (A : Option Addr) (m c : Nat) (news : List Value) (hx : a.eval x = .slice A m c) (hsrc : Src w size A m c news) (h1 : ∀ u ∈ news, u.oneCell' = true)
    (h63 : n + m ≤ maxLen) (hbytes : (n + m) * bytes ≤ 140737488355328) (hbase : base ≤ w.heap.size)
    (h : ∀ v' w', w'.ownsRow base e size v' (n + m) (xs ++ news) → w.grownBy w' v.ownBlock → wpList P ops Q rest (a.put o.dst v') w') : wpList P ops Q (o :: rest) a w := by
  obtain ⟨hl, ⟨rfl, rfl, rfl⟩ | ⟨ad, rfl, hc⟩⟩ := hsrc
  · have hn : news = [] := List.eq_nil_of_length_eq_zero (by rw [hl, Nat.zero_mul])
    subst hn
    exact wpList_append_own_none hgd s x t ho base e i size ht hi v n xs hs hown hx (h v w (by simpa using hown) (World.grownBy.refl w _))
  · exact wpList_append_own w hgd s x t ho base e i z size bytes ht hi hz hsize hby hzs hsz v n xs hs hown ad m c news hx hl hc h1 h63 hbytes hbase fun v' w' h2 h3 _ => h v' w' h2 h3
theorem add_at (b f j : Nat) : (⟨b, f, none⟩ : Addr).add j = ⟨b, f + j, none⟩ := by
  unfold Addr.add
  split
  · rename_i h; subst h; rfl
  · rfl
theorem Tryd.infoStr : (Tryd.prog.info? 9).map (fun i => (i.zero, i.size, i.bytes)) = some (some (.string ⟨#[]⟩), 1, 16) := by kernel_rfl
theorem Tryd.infoExpr : (Tryd.prog.info? 91).map (fun i => (i.zero, i.size, i.bytes)) = some (some (.agg #[.int .i64 0, .int .i64 0, .string ⟨#[]⟩, .int .i64 0, .slice none 0 0]), 5, 64) := by kernel_rfl
theorem Tryd.infoStmt : (Tryd.prog.info? 88).map (fun i => (i.zero, i.size, i.bytes)) = some (some (.agg #[.int .i64 0, .string ⟨#[]⟩, .slice none 0 0, .slice none 0 0, .int .i64 0, .int .i64 0, .slice none 0 0, .slice none 0 0]), 8, 136) := by kernel_rfl
end Go.Proofs.YtbppfhlpielpcaaDoor
namespace Go.Proofs.YtbppfhlpielpcaaDoor
open Go.RowKit
set_option linter.unusedVariables false
section
variable {C : Cx} {s : Ms} {w : World}
theorem StrsAt.src {w' : World} {A : Option Addr} {c : Nat} {l : List ByteArray} (h : StrsAt C w' A c l) : Src w' 1 A l.length c (l.map Value.string) := by
  refine ⟨by simp, ?_⟩
  rcases h with ⟨rfl, rfl, rfl⟩ | ⟨b, f, rfl, _, _, _, _, _, hi⟩
  · exact .inl ⟨rfl, rfl, rfl⟩
  · refine .inr ⟨_, rfl, fun j u hu => ?_⟩
    rw [List.getElem?_map] at hu
    rcases hj : l[j]? with _ | y
    · rw [hj] at hu; cases hu
    · rw [hj] at hu
      have hlt : j < l.length := (List.getElem?_eq_some_iff.1 hj).1
      rw [add_at, hi j hlt, List.getD_eq_getElem?_getD, hj]
      simpa using hu
theorem strs_one (l : List ByteArray) : ∀ u ∈ l.map Value.string, u.oneCell' = true := by
  intro u hu
  obtain ⟨x, _, rfl⟩ := List.mem_map.1 hu
  rfl
theorem usable_step {w wr w2 : World} {v v2 : Value} {l : List ByteArray} {y : ByteArray} {q : Nat} (ho : wr.ownsRow w.heap.size 9 1 v l.length (l.map Value.string)) (hl : ∀ x ∈ l, Nm x) (hb : Below w.heap.size w wr) (hy : Nm y)
    (hown : w2.ownsRow w.heap.size 9 1 v2 (l.length + 1) (l.map Value.string ++ [Value.string y])) (hg : ((wr.drewN q).alloc (.cells #[.string y] 9)).grownBy w2 v.ownBlock) :
    w2.ownsRow w.heap.size 9 1 v2 (l ++ [y]).length ((l ++ [y]).map Value.string) ∧ (∀ x ∈ l ++ [y], Nm x) ∧ Below w.heap.size w w2 := by
  have hs := hb.size
  refine ⟨by simpa using hown, fun x hx => ?_, ?_⟩
  · rcases List.mem_append.1 hx with h | h
    · exact hl x h
    · simp at h; rw [h]; exact hy
  · have h1 : Below w.heap.size w (wr.drewN q) := hb.trans ⟨rfl, rfl, rfl, Nat.le_refl _, fun _ _ => rfl⟩
    exact (h1.alloc hs _).grown hg (by simp; omega) fun k hk => (ho.lt k hk).1
set_option maxRecDepth 100000 in
theorem usable_mk (h : Mks C s w) :
    Calls Tryd.prog 66 #[.pointer (some ⟨C.M, 0, none⟩)] w fun e w' => ∃ (l : List ByteArray) (v : Value), e = .returned v ∧ w'.ownsRow w.heap.size 9 1 v l.length (l.map Value.string) ∧ l.length ≤ 2 ∧ (∀ x ∈ l, Nm x) ∧ Below w.heap.size w w' := by
  obtain ⟨i0, hi0, hz0, hz1, hz2⟩ := info_parts Tryd.infoStr
  have HI := Lib.hid (And.intro hi0 (And.intro hz0 (And.intro hz1 hz2)))
  have HS := Lib.hid (h.alloc (.cells #[] 9)).arrs.src
  have HO := Lib.hid (World.ownsRow_lit (base := w.heap.size) (e := 9) (size := 1) w #[] 0 (Nat.le_refl _) (by unfold maxLen; omega) rfl)
  have HN := Lib.hid h.nums
  have hMl := h.blk.lt
  have c3 := h.c3
  have c4 := h.c4
  have c5 := h.c5
  have H := Lib.hid h
  have hn1 : C.ars.length ≤ 1 := h.nums.2.2.1
  have hn2 : C.ss.length ≤ 1 := h.nums.2.2.2.1
  clear h hi0 hz0 hz1 hz2
  go_enter Tryd.func66, Tryd.ntmps66
  go_wp2_with (at_builtin; refine wpList_append_src rfl (.tmp 5) (.tmp 9) 28 rfl w.heap.size 9 i0 _ 1 16 Tryd.underlying28 HI.out.1 HI.out.2.1 HI.out.2.2.1 HI.out.2.2.2 rfl (by decide) (.slice (some ⟨w.heap.size, 0, none⟩) 0 0) 0 [] rfl HO.out _ _ _ (C.ars.map Value.string) rfl HS.out (strs_one _) (by unfold maxLen; omega) (by omega) (by simp) ?_; intro v' w1 hown1 hgrow1)
  have hb1 : Below w.heap.size w w1 := ((Below.refl _ _).alloc (Nat.le_refl _) _).grown hgrow1 (by simp) (fun k hk => by
    have e : w.heap.size = k := by simpa [Value.ownBlock] using hk
    omega)
  have HR1 := Lib.hid (And.intro (show w1.ownsRow w.heap.size 9 1 v' C.ars.length (C.ars.map Value.string) by simpa using hown1) hb1)
  clear hown1 hgrow1 hb1 c3
  go_loopw [3, 4] (fun v i wr => ∃ (k : Nat) (l : List ByteArray), k ≤ C.ss.length ∧ i = .int .i64 k ∧ l.length ≤ C.ars.length + k ∧
      Hid (wr.ownsRow w.heap.size 9 1 v l.length (l.map Value.string) ∧ (∀ x ∈ l, Nm x) ∧ Below w.heap.size w wr)) (fun _ i _ => C.ss.length - (intOf i).toNat)
  case atStart => exact ⟨0, C.ars, Nat.zero_le _, rfl, by omega, Lib.hid ⟨HR1.out.1, HN.out.2.2.2.2.2.1, HR1.out.2⟩⟩
  case round =>
    clear HR1
    obtain ⟨k, l, hk, rfl, hl, hR⟩ := hrel
    have c4' : wr.cell? ⟨C.M, 4, none⟩ = some (.slice C.sa C.ss.length C.sc) := (hR.out.2.2.cell (p := ⟨C.M, 4, none⟩) hMl).trans c4
    have c5' : wr.cell? ⟨C.M, 5, none⟩ = some (.string s.held) := (hR.out.2.2.cell (p := ⟨C.M, 5, none⟩) hMl).trans c5
    by_cases hlt : k < C.ss.length
    · have hsh := H.out.shrd
      rcases hsh with ⟨e, _⟩ | ⟨b, f, e, hc, hB, hbl, hD, hM, hi⟩
      · rw [e] at hlt; simp at hlt
      · obtain ⟨q1, q2, q3⟩ := hi k hlt
        rw [e] at c4'
        have g1 := (hR.out.2.2.cell (p := ⟨b, f + k * 3, none⟩) hbl).trans q1
        have g3 := (hR.out.2.2.cell (p := ⟨b, f + k * 3 + 2, none⟩) hbl).trans q3
        have hnm := (HN.out.2.2.2.2.2.2.1 (C.ss.getD k (⟨#[]⟩, 0, ⟨#[]⟩)) (by rw [List.getD_eq_getElem?_getD, List.getElem?_eq_getElem hlt]; exact List.getElem_mem hlt)).1
        have HNm := Lib.hid hnm
        clear q1 q2 q3 hi e hnm hB hD hM
        generalize C.ss.getD k (⟨#[]⟩, 0, ⟨#[]⟩) = y at *
        obtain ⟨y1, y2, y3⟩ := y
        simp only at g1 g3 HNm
        have hlt' : (k : Int) < C.ss.length := by omega
        have hsz : w.heap.size ≤ wr.heap.size := hR.out.2.2.size
        cases heq : (y3.toList == s.held.toList)
        · go_wp2_with fail
          go_quiet (fail)
          go_wp2
          go_roundw
          case rel => exact ⟨k + 1, l, by omega, by go_num, by omega, Lib.hid ⟨hR.out.1, hR.out.2.1, hR.out.2.2.trans ⟨rfl, rfl, rfl, Nat.le_refl _, fun _ _ => rfl⟩⟩⟩
          case measure => simp [intOf]; omega
        · go_wp2_with fail
          go_quiet (fail)
          go_wp2_with (at_builtin; refine wpList_append_src rfl (.tmp 33) (.tmp 43) 28 rfl w.heap.size 9 i0 _ 1 16 Tryd.underlying28 HI.out.1 HI.out.2.1 HI.out.2.2.1 HI.out.2.2.2 rfl (by decide) u3 l.length (l.map Value.string) rfl (hR.out.1.alloc _) _ _ _ [Value.string y1] rfl ⟨rfl, .inr ⟨_, rfl, cell_one_new _ _ _⟩⟩ (fun u hu => by simp at hu; subst hu; rfl) (by unfold maxLen; omega) (by omega) (by simp; omega) ?_; intro v2 w2 hown2 hgrow2)
          have hR2 := usable_step hR.out.1 hR.out.2.1 hR.out.2.2 HNm.out hown2 hgrow2
          have HR2 := Lib.hid hR2
          clear hR2 hown2 hgrow2
          go_wp2
          go_roundw
          case rel => exact ⟨k + 1, l ++ [y1], by omega, by go_num, by simp; omega, HR2⟩
          case measure => simp [intOf]; omega
    · go_wp2
      go_ret
      exact ⟨l, _, rfl, hR.out.1, by omega, hR.out.2.1, hR.out.2.2⟩
end
end Go.Proofs.YtbppfhlpielpcaaDoor
