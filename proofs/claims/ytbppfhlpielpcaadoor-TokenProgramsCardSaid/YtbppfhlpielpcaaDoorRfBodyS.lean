/- The specification's printing of bodies: a row of bytes that grows, and what is kept. -/
import Derived.Test.YtbppfhlpielpcaaDoorRfTextE
import Derived.Lib.AppendStr
import Derived.Deep.RegionHeldLaw
namespace Go.Proofs.YtbppfhlpielpcaaDoor
open Go.RowKit Tk
set_option linter.unusedVariables false
set_option maxRecDepth 100000
theorem Tryd.infoByte : (Tryd.prog.info? 5).map (fun i => (i.zero, i.size, i.bytes)) = some (some (.int .u8 0), 1, 1) := by kernel_rfl
/-- A row of n bytes of the call's own. -/
def U8s (xs : List Value) : Prop := ∀ u ∈ xs, ∃ k : Int, u = .int .u8 k ∧ 0 ≤ k ∧ k ≤ 255
theorem u8s_app {xs : List Value} (h : U8s xs) (s : ByteArray) : U8s (xs ++ Lib.strCells s) := fun u hu => by
  rcases List.mem_append.1 hu with hu | hu
  · exact h u hu
  · unfold Lib.strCells at hu
    obtain ⟨b, _, rfl⟩ := List.mem_map.1 hu
    have := b.toNat_lt
    exact ⟨_, rfl, by omega, by omega⟩
def OutB (base : Nat) (v : Value) (n : Nat) (W : World) : Prop := ∃ xs, W.ownsRow base 5 1 v n xs ∧ U8s xs
theorem outb_nil (base : Nat) (W : World) : OutB base (.slice none 0 0) 0 W := ⟨[], World.ownsRow_nil _ _ _ _, fun u hu => by cases hu⟩
/-- All blocks are kept but rows of bytes from base on. -/
structure Kp (base : Nat) (w w' : World) : Prop where
  os : w'.os = w.os
  tape : w'.tape = w.tape
  output : w'.output = w.output
  size : w.heap.size ≤ w'.heap.size
  block : ∀ b, b < w.heap.size → (b < base ∨ tagOf w b ≠ some 5) → w'.heap[b]? = w.heap[b]?
section
variable {base n : Nat} {w w' w'' : World} {v v' : Value}
theorem Kp.refl (base : Nat) (w : World) : Kp base w w := ⟨rfl, rfl, rfl, Nat.le_refl _, fun _ _ _ => rfl⟩
theorem Kp.trans (h : Kp base w w') (k : Kp base w' w'') : Kp base w w'' :=
  ⟨k.os.trans h.os, k.tape.trans h.tape, k.output.trans h.output, Nat.le_trans h.size k.size, fun b hb hc => by
    have e := h.block b hb hc
    rw [k.block b (Nat.lt_of_lt_of_le hb h.size) (by rcases hc with hc | hc; exact .inl hc; exact .inr (by rw [tag_same e]; exact hc)), e]⟩
theorem Kp.below (h : Below w.heap.size w w') : Kp base w w' := ⟨h.os, h.tape, h.output, h.size, fun b hb _ => h.block b hb⟩
theorem Kp.toBelow (h : Kp base w w') (hs : base ≤ w.heap.size) : Below base w w' := ⟨h.os, h.tape, h.output, h.size, fun b hb => h.block b (by omega) (.inl hb)⟩
theorem Kp.alloc (h : Kp base w w') (o : Obj) : Kp base w (w'.alloc o) := h.trans (Kp.below ((Below.refl _ _).alloc (Nat.le_refl _) o))
theorem Kp.drew (h : Kp base w w') : Kp base w w'.drew := h.trans (Kp.below ⟨rfl, rfl, rfl, Nat.le_refl _, fun _ _ => rfl⟩)
theorem Kp.grown (ho : OutB base v n w) (hg : w.grownBy w' v.ownBlock) : Kp base w w' :=
  ⟨hg.os, hg.tape, hg.output, hg.size, fun b hb hc => hg.block b hb fun e => by
    obtain ⟨xs, ho, _⟩ := ho
    obtain ⟨h1, h2, h3⟩ := own_tag ho e.symm
    rcases hc with hc | hc
    · omega
    · exact hc h1⟩
/-- A block that is no row of bytes is kept. -/
theorem Kp.blk {g : Nat} {t : TypeId} {cs : Array Value} (h : Kp base w w') (hb : Blk w g t cs) (ht : t ≠ 5) : Blk w' g t cs :=
  (h.block g hb.lt (.inr (by rw [hb.tag]; exact fun e => ht (by injection e)))).trans hb
theorem OutB.below (h : OutB base v n w) (hb : Below w.heap.size w w') : OutB base v n w' := by
  obtain ⟨xs, h, hu⟩ := h
  exact ⟨xs, own_keep h hb.size fun g hg => hb.block g (own_tag h hg).2.1, hu⟩
/-- A string is appended, as a step of a region that draws. -/
theorem step_append_str (w : World) {ops : Array Oper} {o : Oper} {a : Act} {K : Act → World → Prop} {Q : Exit → Act → World → Prop} {E : Prop} (hgd : o.guard = none) (sl x : Operand)
    (ho : o.op = .call { callee := .builtin .append, args := #[sl, x], argTypes := #[36, 9] }) (hs : a.eval sl = v) (hown : OutB base v n w) (s : ByteArray) (hx : a.eval x = .string s) (hn : n + s.size ≤ 1000000000000) (hbase : base ≤ w.heap.size)
    (h : ∀ v' w', OutB base v' (n + s.size) w' → Kp base w w' → K (a.put o.dst v') w') : if Region.wanted o (yielded ops a.tmps) = true then Oper.wp Tryd.prog o a w K Q else E := by
  have hw : Region.wanted o (yielded ops a.tmps) = true := by simp [Region.wanted, hgd]
  rw [if_pos hw]
  obtain ⟨i0, hi0, hz0, hz1, hz2⟩ := info_parts Tryd.infoByte
  obtain ⟨xs, ho', hu8⟩ := hown
  obtain ⟨v', w', hr, h2, h3, _⟩ := Lib.run_append_own_string (P := Tryd.prog) w base 36 9 o.type 5 i0 Tryd.underlying36 Tryd.underlying9 hi0 hz0 hz1 hz2 v n xs ho' s (by unfold maxLen; omega) (by omega) hbase
  unfold Oper.wp execOp
  simp only [ho, resolve, invoke, builtin, Sem.run_bind, Sem.run_pure, Result.andThen_ok, List.map_toArray, List.map_cons, List.map_nil, hs, hx, hr]
  exact h v' w' ⟨_, h2, u8s_app hu8 s⟩ (Kp.grown ⟨_, ho', hu8⟩ h3)
end
end Go.Proofs.YtbppfhlpielpcaaDoor
