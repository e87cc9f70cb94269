/- The specification's Decode. No condition. -/
import Derived.Test.YthcjohfngnffpaaInEn
import Derived.Deep.RegionWith
namespace Go.Proofs.Ythcjohfngnffpaa
open Go.RowKit
set_option linter.unusedVariables false
set_option linter.unusedSimpArgs false
attribute [local go_sem] y_undef
theorem or_nat {n m : Nat} (h : n + m < 4611686018427387904) (ho : n ||| m = n + m) : bits BinOp.or IntKind.i64 (n : Int) (m : Int) = ((n + m : Nat) : Int) := by
  rw [bits_or64]
  have h1 : (BitVec.ofInt 64 (n : Int) ||| BitVec.ofInt 64 (m : Int) : BitVec 64).toNat = n + m := by
    rw [BitVec.toNat_or, BitVec.ofInt_natCast, BitVec.ofInt_natCast, BitVec.toNat_ofNat, BitVec.toNat_ofNat, Nat.mod_eq_of_lt (by omega), Nat.mod_eq_of_lt (by omega), ho]
  rw [h1]
  exact IntWalk.i64_in _ (by omega)
theorem or4 {p q r s : Int} (p0 : 0 ≤ p) (p1 : p ≤ 255) (q0 : 0 ≤ q) (q1 : q ≤ 255) (r0 : 0 ≤ r) (r1 : r ≤ 255) (s0 : 0 ≤ s) (s1 : s ≤ 255) :
    bits BinOp.or IntKind.i64 (bits BinOp.or IntKind.i64 (bits BinOp.or IntKind.i64 (p * 16777216) (q * 65536)) (r * 256)) s = p * 16777216 + q * 65536 + r * 256 + s := by
  obtain ⟨a, rfl⟩ : ∃ a : Nat, p = a := ⟨p.toNat, by omega⟩
  obtain ⟨b, rfl⟩ : ∃ b : Nat, q = b := ⟨q.toNat, by omega⟩
  obtain ⟨c, rfl⟩ : ∃ c : Nat, r = c := ⟨r.toNat, by omega⟩
  obtain ⟨d, rfl⟩ : ∃ d : Nat, s = d := ⟨s.toNat, by omega⟩
  have e1 : (a : Int) * 16777216 = ((2 ^ 24 * a : Nat) : Int) := by omega
  have e2 : (b : Int) * 65536 = ((b * 65536 : Nat) : Int) := by omega
  have e3 : (c : Int) * 256 = ((c * 256 : Nat) : Int) := by omega
  have o1 := or_nat (n := 2 ^ 24 * a) (m := b * 65536) (by omega) (Nat.two_pow_add_eq_or_of_lt (by omega) _).symm
  have e4 : 2 ^ 24 * a + b * 65536 = 2 ^ 16 * (a * 256 + b) := by omega
  rw [e4] at o1
  have o2 := or_nat (n := 2 ^ 16 * (a * 256 + b)) (m := c * 256) (by omega) (Nat.two_pow_add_eq_or_of_lt (by omega) _).symm
  have e5 : 2 ^ 16 * (a * 256 + b) + c * 256 = 2 ^ 8 * (a * 65536 + b * 256 + c) := by omega
  rw [e5] at o2
  have o3 := or_nat (n := 2 ^ 8 * (a * 65536 + b * 256 + c)) (m := d) (by omega) (Nat.two_pow_add_eq_or_of_lt (by omega) _).symm
  rw [e1, e2, o1, e3, o2, o3]
  omega
theorem BytL.opened {w : World} {v : Value} {l : List Int} (h : BytL w v l) : ∃ (A : Option Addr) (c : Nat), v = .slice A l.length c ∧ (l.length = 0 ∨ ∃ b off, A = some ⟨b, off, none⟩ ∧ b < w.heap.size ∧ ∀ i, i < l.length → w.cell? ⟨b, off + i, none⟩ = some (.int .u8 (l.getD i 0))) := by
  obtain ⟨A, c, e, hl, h0 | ⟨b, off, eA, hlt, hc⟩⟩ := h
  · exact ⟨A, c, e, .inl h0⟩
  · refine ⟨A, c, e, .inr ⟨b, off, eA, hlt, fun i hi => hc i _ ?_⟩⟩
    rw [List.getElem?_map, getD_some' 0 hi]
    rfl
theorem byte_at {l : List Int} (h : ∀ z ∈ l, 0 ≤ z ∧ z ≤ 255) (i : Nat) : 0 ≤ l.getD i 0 ∧ l.getD i 0 ≤ 255 := by
  rcases Nat.lt_or_ge i l.length with h1 | h1
  · exact h _ (by rw [List.getD_eq_getElem?_getD, List.getElem?_eq_getElem h1]; exact List.getElem_mem h1)
  · rw [List.getD_eq_getElem?_getD, List.getElem?_eq_none h1]; simp
/-- Decode's loop. -/
structure DeS (w : World) (b : List Int) (k : Nat) (y : Value) (u : World) : Prop where
  bel : Below w.heap.size w u
  row : u.ownsRow w.heap.size 26 6 y k ((In.des b k).flatMap iCells)
  ok : ∀ j, j < k → In.chk (In.de b j) = 0
section
variable {w u u' : World} {b : List Int} {k : Nat} {y y' : Value}
theorem DeS.below (h : DeS w b k y u) (hb : Below u.heap.size u u') : DeS w b k y u' := ⟨blt h.bel hb, own_below h.row hb, h.ok⟩
theorem DeS.push (h : DeS w b k y u) (hc : In.chk (In.de b k) = 0) (hown : u'.ownsRow w.heap.size 26 6 y' (k + 1) ((In.des b k).flatMap iCells ++ iCells (In.de b k))) (hg : u.grownBy u' y.ownBlock) : DeS w b (k + 1) y' u' :=
  ⟨h.bel.grown hg h.bel.size (fun q hq => (h.row.lt q hq).1), by rw [In.des_succ, List.flatMap_append]; simpa using hown, fun j hj => by
    rcases Nat.lt_or_ge j k with h1 | h1
    · exact h.ok j h1
    · rw [show j = k by omega]; exact hc⟩
/-- What Decode answers. -/
def DePost (w : World) (b : List Int) (e : Ending) (w' : World) : Prop := ∃ y, e = .returned (.tuple #[y, .int .i64 (In.dno b)]) ∧ w'.ownsRow w.heap.size 26 6 y (In.dl b).length ((In.dl b).flatMap iCells) ∧ Below w.heap.size w w'
theorem DePost.bad (h : In.good b = false) (hb : Below w.heap.size w u) : In.dno b = 10 ∧ DePost w b (.returned (.tuple #[.slice none 0 0, .int .i64 (In.dno b)])) u :=
  ⟨by unfold In.dno; rw [h]; rfl, _, rfl, by unfold In.dl; rw [h]; exact World.ownsRow_nil _ _ _ _, hb⟩
theorem DeS.fin (h : DeS w b (b.length / 8) y u) (h1 : b.length % 8 = 0) (h2 : b.length ≤ 8192) : In.dno b = 0 ∧ DePost w b (.returned (.tuple #[y, .int .i64 (In.dno b)])) u := by
  have hg : In.good b = true := In.good_yes h1 h2 h.ok
  refine ⟨by unfold In.dno; rw [hg]; rfl, _, rfl, ?_, h.bel⟩
  have hr := h.row
  unfold In.dl
  rw [hg, if_pos rfl, In.des_len]
  exact hr
end
theorem lit_in (u : World) (k a b c o m : Int) (g : Nat) (hg : g = u.heap.size) : RowIn 6 (u.alloc (.cells #[.int .i64 k, .int .i64 a, .int .i64 b, .int .i64 c, .int .i64 o, .int .i64 m] 26)) (.slice (some ⟨g, 0, none⟩) 1 1) 1 (iCells ⟨k, a, b, c, o, m⟩) := by
  subst hg
  refine ⟨_, 1, rfl, rfl, .inr ⟨_, 0, rfl, by simp, fun j x hj => ?_⟩⟩
  have hb := heap_alloc_new u (.cells #[.int .i64 k, .int .i64 a, .int .i64 b, .int .i64 c, .int .i64 o, .int .i64 m] 26)
  rw [cell_of_row _ _ _ _ _ _ hb, Nat.zero_add]
  simpa [iCells] using hj
theorem one_in {i : In.I} : ∀ u ∈ iCells i, u.oneCell' = true := by
  intro u hu
  unfold iCells at hu
  simp only [List.mem_cons, List.not_mem_nil, or_false] at hu
  rcases hu with rfl | rfl | rfl | rfl | rfl | rfl <;> rfl
end Go.Proofs.Ythcjohfngnffpaa
