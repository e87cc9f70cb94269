/- The specification's printing of bodies: what its walk needs. -/
import Derived.Test.YtbppfhlpielpcaaDoorRfBodyS
import Derived.Test.YtbppfhlpielpcaaDoorRfStmts
namespace Go.Proofs.YtbppfhlpielpcaaDoor
open Go.RowKit Tk
set_option linter.unusedVariables false
set_option maxRecDepth 100000
section
variable {base n : Nat} {w w' : World} {v v' : Value}
theorem wpList_append_str {ops : Array Oper} {rest : List Oper} {o : Oper} {a : Act} {Q : Exit → Act → World → Prop} (hgd : o.guard = none) (sl x : Operand)
    (ho : o.op = .call { callee := .builtin .append, args := #[sl, x], argTypes := #[36, 9] }) (hs : a.eval sl = v) (hown : OutB base v n w) (s : ByteArray) (hx : a.eval x = .string s) (hn : n + s.size ≤ 1000000000000) (hbase : base ≤ w.heap.size)
    (h : ∀ v' w', OutB base v' (n + s.size) w' → Kp base w w' → wpList Tryd.prog ops Q rest (a.put o.dst v') w') : wpList Tryd.prog ops Q (o :: rest) a w := by
  obtain ⟨i0, hi0, hz0, hz1, hz2⟩ := info_parts Tryd.infoByte
  obtain ⟨xs, ho', hu8⟩ := hown
  exact Lib.wpList_append_own_string w hgd sl x 36 9 ho base 5 i0 Tryd.underlying36 Tryd.underlying9 hi0 hz0 hz1 hz2 v n xs hs ho' s hx (by unfold maxLen; omega) (by omega) hbase
    fun v' w' h2 h3 _ => h v' w' ⟨_, h2, u8s_app hu8 s⟩ (Kp.grown ⟨_, ho', hu8⟩ h3)
end
theorem tree_kp {base : Nat} {w W : World} {S : Nat → Prop} {a : Exs} {A : Option Addr} (h : a.At w S A) (hS : ∀ b, S b → b < base) (hk : Kp base w W) : a.At W S A :=
  h.keep hk.size fun b hb hl => ⟨hb, fun f => World.cell?_of_block (hk.block b hl (.inl (hS b hb)))⟩
theorem sts_kp {base : Nat} {w W : World} {S : Nat → Prop} {a : Sts} {A : Option Addr} (h : a.At w S A) (hS : ∀ b, S b → b < base) (hk : Kp base w W) : a.At W S A :=
  h.keep hk.size fun b hb hl => ⟨hb, fun f => World.cell?_of_block (hk.block b hl (.inl (hS b hb)))⟩
/-- The first expression of a list, in any world behind: its cells, its text. -/
theorem exs_one {base : Nat} {w : World} {S : Nat → Prop} {a : Exs} {A : Option Addr} (h : a.At w S A) (hS : ∀ b, S b → b < base) (hl : a.len = 1) (hg : a.Good) (hh : a.height ≤ 3) :
    ∃ b f k n s o a0 B c, A = some ⟨b, f, none⟩ ∧ ∀ W, Kp base w W → ((W.cell? ⟨b, f, none⟩ = some (.int .i64 k) ∧ W.cell? ⟨b, f + 1, none⟩ = some (.int .i64 n) ∧ W.cell? ⟨b, f + 2, none⟩ = some (.string s) ∧ W.cell? ⟨b, f + 3, none⟩ = some (.int .i64 o) ∧ W.cell? ⟨b, f + 4, none⟩ = some (.slice B (Exs.len a0) c)) ∧
      Calls Tryd.prog 44 #[.agg #[.int .i64 k, .int .i64 n, .string s, .int .i64 o, .slice B (Exs.len a0) c]] W fun e w' => ∃ r : ByteArray, e = .returned (.string r) ∧ r.size ≤ 110 ∧ Below W.heap.size W w') := by
  obtain ⟨b, f, rfl⟩ := h.some (by omega)
  have hbS : b < base := by
    cases a with
    | nil => simp [Exs.len] at hl
    | cons => obtain ⟨b', f', e, hs, _⟩ := h; injection e with e; injection e with e1; subst e1; exact hS _ hs
  obtain ⟨k0, n0, s0, o0, a0, B0, c0, hb0, hd0, hc0, ha0⟩ := at_cells h (i := 0) (g := f) (by omega) (by omega)
  have hg0 := hg.drop 0
  have hh0 := Exs.drop_height a 0
  rw [hd0] at hg0 hh0
  simp only [Exs.height] at hh0
  refine ⟨b, f, k0, n0, s0, o0, a0, B0, c0, rfl, fun W hk => ⟨?_, ?_⟩⟩
  · have e : ∀ g, W.cell? ⟨b, g, none⟩ = w.cell? ⟨b, g, none⟩ := fun g => World.cell?_of_block (hk.block b hb0 (.inl hbS))
    exact ⟨(e _).trans hc0.1, (e _).trans hc0.2.1, (e _).trans hc0.2.2.1, (e _).trans hc0.2.2.2.1, (e _).trans hc0.2.2.2.2⟩
  · refine (text_any a0.height a0 B0 c0 k0 n0 o0 s0 S W rfl hg0.1 hg0.2.1 (tree_kp ha0 hS hk) (by omega)).mono ?_
    rintro e w' ⟨r, rfl, hr, hb⟩
    refine ⟨r, rfl, ?_, hb⟩
    have : 2 ^ a0.height ≤ 2 ^ 2 := Nat.pow_le_pow_right (by omega) (by omega)
    omega
end Go.Proofs.YtbppfhlpielpcaaDoor
