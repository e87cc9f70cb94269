/- The generator's lock: what its steps leave. -/
import Derived.Test.YtbppfhlpielpcaaDoorGnLpq
import Derived.Lib.Strings
namespace Go.Proofs.YtbppfhlpielpcaaDoor
open Go.RowKit
set_option linter.unusedVariables false
section
variable {C : Cx} {s s1 s2 : Ms} {w W W' wA w4 : World}
/-- The maker, whatever it holds locked. -/
def Sh (C : Cx) (s : Ms) (w W : World) : Prop := ∃ hd, Sg C { s with held := hd } w W
theorem Sh.drew (h : Sh C s w W) : Sh C s w W.drew := by obtain ⟨hd, h⟩ := h; exact ⟨hd, h.drew⟩
theorem Sh.set (h : Sh C s w W) {y : ByteArray} (hy : y = ⟨#[]⟩ ∨ Nm y) : Sg C { s with held := y } w (W.setCell ⟨C.M, 5, none⟩ (.string y)) := by
  obtain ⟨hd, h⟩ := h
  exact h.upd 5 (.string y) { s with held := y } rfl ⟨rfl, rfl, rfl⟩ ⟨h.1.lims.2.2.1, h.1.lims.2.2.2.1, h.1.lims.2.2.2.2.1, h.1.lims.2.2.2.2.2.1, hy⟩
theorem Sh.c5 (h : Sh C s w W) : (∃ hd, W.cell? ⟨C.M, 5, none⟩ = some (.string hd)) ∧ W.frozen? ⟨C.M, 5, none⟩ = false := by
  obtain ⟨hd, h⟩ := h
  exact ⟨⟨_, h.1.c5⟩, h.1.blk.frozen 5⟩
theorem Sh.next (h : Sh C s w W) (n : Int) (hn : 0 ≤ n ∧ n ≤ 1000000) {b f : Nat} {y : ByteArray} (hc : C.sa = some ⟨b, f, none⟩) (hq : ∀ W', (∃ hd, Mks C { s with held := hd } W') → W'.cell? ⟨b, f + 2, none⟩ = some (.string y)) :
    Calls Tryd.prog 30 #[.pointer (some ⟨C.D, 0, none⟩), .int .i64 n] W fun e w' => ∃ r : Int, e = .returned (.int .i64 r) ∧ In n r ∧ Sh C s w w' ∧ w'.cell? ⟨b, f + 2, none⟩ = some (.string y) := by
  obtain ⟨hd, h⟩ := h
  exact (next_mk h.1 n hn).mono fun e w' ⟨r, he, h0, h1, hm, hg⟩ => ⟨r, he, ⟨h0, h1⟩, ⟨hd, h.step hm hg⟩, hq _ ⟨hd, hm⟩⟩
/-- The maker, in some later state. -/
def Sx (C : Cx) (s : Ms) (w W : World) : Prop := ∃ s', Sg C s' w W ∧ Alk s s'
theorem Sx.drew (h : Sx C s w W) : Sx C s w W.drew := by obtain ⟨s', h, ha⟩ := h; exact ⟨s', h.drew, ha⟩
theorem Sx.alloc (h : Sx C s w W) (o : Obj) : Sx C s w (W.alloc o) := by obtain ⟨s', h, ha⟩ := h; exact ⟨s', h.alloc o, ha⟩
theorem Sx.set8 (hB0 : C.B ≤ w.heap.size) (h : Sx C s w W) {g : Nat} (hb : Blk W g 88 zSt) (hg : w.heap.size ≤ g) (a1 b1 c1 d1 e1 f1 g1 h1 : Value) : Sx C s w (Go.Proofs.YtbppfhlpielpcaaDoor.set8 W g a1 b1 c1 d1 e1 f1 g1 h1) := by
  obtain ⟨s', h, ha⟩ := h
  exact ⟨s', Sg.set8 hB0 h hb hg _ _ _ _ _ _ _ _, ha⟩
theorem Sx.holds (h : Sx C s w W) : W.cell? ⟨C.M, 5, none⟩ = some (.string s.held) ∧ Sx C s w W := by
  have h0 := h
  obtain ⟨s', h, ha⟩ := h
  have := h.1.c5
  rw [ha.2.1] at this
  exact ⟨this, h0⟩
/-- What a block leaves, for a lock. -/
def BlkOut (C : Cx) (s : Ms) (w w0 : World) (h : Nat) (t1 : Sts) (A1 : Option Addr) (l1 : Nat) (W : World) : Prop :=
  t1.len ≤ l1 ∧ t1.At W (Fr w0.heap.size W) A1 ∧ t1.Good ∧ t1.height ≤ h ∧ t1.len ≤ 4 ∧ Sx C s w W ∧ (∀ g, w.heap.size ≤ g → Blk w0 g 88 zSt → Blk W g 88 zSt)
theorem Sx.block {d : Int} {h : Nat} (hbl : BlockC C d 2 h) (hx : Sx C s w W) :
    Calls Tryd.prog 45 #[.pointer (some ⟨C.M, 0, none⟩), .int .i64 d, .int .i64 2] W fun e w' => ∃ t1 A1 l1, e = .returned (.slice A1 t1.len l1) ∧ BlkOut C s w W h t1 A1 l1 w' := by
  obtain ⟨s', hs, ha⟩ := hx
  refine (hbl s' W hs.1).mono ?_
  rintro e w' ⟨t1, v1, s1, rfl, ho, hlo, hhi, hm, hg, ha1⟩
  obtain ⟨A1, l1, rfl, hc, hat⟩ := ho.at
  obtain ⟨_, _, _, q1, q2⟩ := ho
  exact ⟨t1, A1, l1, rfl, hc, hat, q1, q2, by omega, ⟨s1, ⟨hm, hs.2.trans hg⟩, ha.trans ha1⟩, fun g _ hb => hs.1.res hg hb (.inr rfl)⟩
theorem lock_of {m g n : Nat} {y : ByteArray} {t1 : Sts} {A1 : Option Addr} {l1 : Nat} (hb : Blk W g 88 #[.int .i64 5, .string y, .slice none 0 0, .slice none 0 0, .int .i64 0, .int .i64 0, .slice A1 t1.len l1, .slice none 0 0]) (hm : m ≤ g) (hc : t1.len ≤ l1) (ha : t1.At W (fun b => Fr m W b ∧ b ≠ g) A1) :
    StB m W g 5 y none none A1 none 0 0 l1 0 .nil .nil 0 0 t1 .nil :=
  ⟨hb, hm, ⟨Nat.le_refl _, trivial⟩, ⟨Nat.le_refl _, trivial⟩, ⟨hc, ha⟩, ⟨Nat.le_refl _, trivial⟩⟩
abbrev lkRow (y : ByteArray) (A1 : Option Addr) (n l1 : Nat) : Obj := .cells #[.int .i64 5, .string y, .slice none 0 0, .slice none 0 0, .int .i64 0, .int .i64 0, .slice A1 n l1, .slice none 0 0] 88
theorem sts_to {w W : World} {n m g : Nat} {a : Sts} {A : Option Addr} (h : a.At w (Fr n w) A) (hz : w.heap.size ≤ W.heap.size) (hm : m ≤ n) (hk : ∀ b, n ≤ b → b < w.heap.size → b ≠ g ∧ W.heap[b]? = w.heap[b]?) : a.At W (fun b => Fr m W b ∧ b ≠ g) A :=
  h.keep hz fun b hb hl => by
    obtain ⟨h1, h2⟩ := hk b hb.1 hl
    exact ⟨⟨⟨by have := hb.1; omega, by unfold Tr; rw [tag_same h2]; exact hb.2⟩, h1⟩, fun f => World.cell?_of_block h2⟩
/-- The block behind the call. -/
theorem lkA {h : Nat} {y : ByteArray} {t1 : Sts} {A1 : Option Addr} {l1 : Nat} (hx : Sx C s w (w4.alloc (lkRow y A1 t1.len l1))) (hz : w.heap.size ≤ wA.heap.size) (hz4 : w.heap.size ≤ w4.heap.size) (hb : BlkOut C s w wA.drew h t1 A1 l1 w4) :
    StB w.heap.size (w4.alloc (lkRow y A1 t1.len l1)) w4.heap.size 5 y none none A1 none 0 0 l1 0 .nil .nil 0 0 t1 .nil :=
  lock_of (n := 0) (Blk.new w4 88 _) hz4 hb.1 (sts_to hb.2.1 (by simp) hz fun b _ hl => ⟨by omega, Below.heap_alloc _ _ _ hl⟩)
/-- The block before the call. -/
theorem lkB {h : Nat} {y : ByteArray} {t1 : Sts} {A1 : Option Addr} {l1 : Nat} {o : Obj} (hx : Sx C s w (Go.Proofs.YtbppfhlpielpcaaDoor.set8 w4 wA.heap.size (.int .i64 5) (.string y) (.slice none 0 0) (.slice none 0 0) (.int .i64 0) (.int .i64 0) (.slice A1 t1.len l1) (.slice none 0 0))) (hbk : Blk w4 wA.heap.size 88 zSt) (hz : w.heap.size ≤ wA.heap.size) (hb : BlkOut C s w (wA.alloc o).drew h t1 A1 l1 w4) :
    StB w.heap.size (Go.Proofs.YtbppfhlpielpcaaDoor.set8 w4 wA.heap.size (.int .i64 5) (.string y) (.slice none 0 0) (.slice none 0 0) (.int .i64 0) (.int .i64 0) (.slice A1 t1.len l1) (.slice none 0 0)) wA.heap.size 5 y none none A1 none 0 0 l1 0 .nil .nil 0 0 t1 .nil := by
  have hz2 : wA.heap.size < (wA.alloc o).drew.heap.size := by simp
  exact lock_of (n := 0) hbk.set8 hz hb.1 (sts_to hb.2.1 (by rw [set8_size]; exact Nat.le_refl _) (by omega) fun b hn hl => ⟨by omega, set8_heap (by omega)⟩)
theorem lk_good {h : Nat} {y : ByteArray} {t1 : Sts} (hy : Nm y) (ht : t1.Good ∧ t1.height ≤ h ∧ t1.len ≤ 4) : (Sts.cons 5 y .nil .nil 0 0 t1 .nil .nil).Good ∧ (Sts.cons 5 y .nil .nil 0 0 t1 .nil .nil).height ≤ h + 1 := by
  refine ⟨⟨.inr (.inr (.inr (.inr ⟨rfl, hy, rfl, rfl, rfl, rfl, rfl⟩))), ⟨trivial, by simp [Exs.height]⟩, ⟨trivial, by simp [Exs.height]⟩, ⟨ht.1, by omega⟩, ⟨trivial, by simp [Sts.len]⟩, trivial⟩, ?_⟩
  simp only [Sts.height]
  omega
theorem shCell {b f : Nat} (he : C.sa = some ⟨b, f, none⟩) (hss : 0 < C.ss.length) (h : ∃ hd, Mks C { s with held := hd } W') : W'.cell? ⟨b, f + 2, none⟩ = some (.string (C.ss.getD 0 (⟨#[]⟩, 0, ⟨#[]⟩)).2.2) := by
  obtain ⟨hd, h⟩ := h
  rcases h.shrd with ⟨e, _⟩ | ⟨b', f', e, _, _, _, _, _, hi⟩
  · rw [e] at hss; simp at hss
  · rw [he] at e
    injection e with e
    injection e with e1 e2
    subst e1 e2
    have := (hi 0 hss).2.2
    simpa using this
theorem Sh.holds {b f : Nat} {y : ByteArray} (he : C.sa = some ⟨b, f, none⟩) (hq : ∀ W', (∃ hd, Mks C { s with held := hd } W') → W'.cell? ⟨b, f + 2, none⟩ = some (.string y)) (h : Sh C s w W) :
    W.cell? ⟨C.M, 0, none⟩ = some (.pointer (some ⟨C.D, 0, none⟩)) ∧ W.cell? ⟨C.M, 4, none⟩ = some (.slice (some ⟨b, f, none⟩) C.ss.length C.sc) ∧ W.cell? ⟨b, f + 2, none⟩ = some (.string y) ∧ Sh C s w W := by
  have h0 := h
  obtain ⟨hd, h⟩ := h
  exact ⟨h.1.c0, he ▸ h.1.c4, hq _ ⟨hd, h.1⟩, h0⟩
theorem Sh.setAny {y : ByteArray} (h : Sh C s w W) (hy : Nm y) : Sh C s w (W.setCell ⟨C.M, 5, none⟩ (.string y)) := ⟨y, h.set (.inr hy)⟩
theorem in1 {r : Int} {n : Nat} (h : In n r) (hn : n ≤ 1) : r = 0 := by
  have h1 := h.1
  have h2 := h.2
  omega
theorem nm_ne {x : ByteArray} (h : Nm x) : x.toList.isEmpty = false := by
  have hs := h.size.2
  cases hq : x.toList with
  | nil => rw [Lib.toList_data] at hq; have : x.size = 0 := by show x.data.size = 0; rw [← Array.length_toList, hq]; rfl
           omega
  | cons a b => rfl
theorem sx_size (h : Sx C s w W) : w.heap.size ≤ W.heap.size := by obtain ⟨_, h, _⟩ := h; exact h.2.size
end
end Go.Proofs.YtbppfhlpielpcaaDoor
