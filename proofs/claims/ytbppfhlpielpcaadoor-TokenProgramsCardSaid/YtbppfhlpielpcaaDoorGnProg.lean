/- Programs in memory: rows of plain cells, tasks, programs. -/
import Derived.Test.YtbppfhlpielpcaaDoorGnStmt
namespace Go.Proofs.YtbppfhlpielpcaaDoor
open Go.RowKit
set_option linter.unusedVariables false
/-- n elements of some cells lie at an address, in a block of S. -/
def Lies (w : World) (S : Nat → Prop) (A : Option Addr) (n c size : Nat) (xs : List Value) : Prop :=
  xs.length = n * size ∧ n ≤ c ∧ ((n = 0 ∧ A = none ∧ c = 0) ∨ ∃ b f, A = some ⟨b, f, none⟩ ∧ S b ∧ b < w.heap.size ∧ ∀ j u, xs[j]? = some u → w.cell? ⟨b, f + j, none⟩ = some u)
section
variable {w w' : World} {S S' : Nat → Prop} {A : Option Addr} {n c size : Nat} {xs : List Value}
theorem Lies.nil : Lies w S none 0 0 size [] := ⟨by simp, Nat.le_refl _, .inl ⟨rfl, rfl, rfl⟩⟩
theorem Lies.keep (h : Lies w S A n c size xs) (hz : w.heap.size ≤ w'.heap.size) (hk : ∀ b, S b → b < w.heap.size → S' b ∧ ∀ f, w'.cell? ⟨b, f, none⟩ = w.cell? ⟨b, f, none⟩) : Lies w' S' A n c size xs := by
  obtain ⟨h1, h2, h3 | ⟨b, f, e, hS, hl, hc⟩⟩ := h
  · exact ⟨h1, h2, .inl h3⟩
  · obtain ⟨q1, q2⟩ := hk b hS hl
    exact ⟨h1, h2, .inr ⟨b, f, e, q1, by omega, fun j u hu => (q2 _).trans (hc j u hu)⟩⟩
theorem Lies.src (h : Lies w S A n c size xs) : Src w size A n c xs := by
  obtain ⟨h1, _, ⟨h2, h3, h4⟩ | ⟨b, f, e, _, _, hc⟩⟩ := h
  · exact ⟨h1, .inl ⟨h3, h2, h4⟩⟩
  · exact ⟨h1, .inr ⟨_, e, fun j u hu => by rw [add_at]; exact hc j u hu⟩⟩
theorem Lies.own {m : Nat} {e : TypeId} {v : Value} (h : w.ownsRow m e size v n xs) (hs : ∀ b, m ≤ b → tagOf w b = some e → S b) (hl : xs.length = n * size) : ∃ A c, v = .slice A n c ∧ Lies w S A n c size xs := by
  have hlt := h.lt
  have hcs := fun g => h.cells (g := g)
  rcases h.2 with ⟨rfl, h0⟩ | ⟨g, cap, cur, rfl, hB, hg, hcap, _⟩
  · subst h0
    exact ⟨none, 0, rfl, hl, Nat.le_refl _, .inl ⟨rfl, rfl, rfl⟩⟩
  · refine ⟨_, cap, rfl, hl, hcap, .inr ⟨g, 0, rfl, hs g hB (by simp [tagOf, hg]), (hlt g rfl).2, fun j u hu => ?_⟩⟩
    have := hcs g rfl j u hu
    rw [add_at] at this
    exact this
theorem Lies.blk {g : Nat} {t : TypeId} {cs : Array Value} (h : Blk w g t cs) (hS : S g) (hl : cs.size = n * size) : Lies w S (some ⟨g, 0, none⟩) n n size cs.toList :=
  ⟨by simpa using hl, Nat.le_refl _, .inr ⟨g, 0, rfl, hS, h.lt, fun j u hu => by rw [h.cell, Nat.zero_add]; simpa using hu⟩⟩
end
def inCells (x : ByteArray × Int × Int) : List Value := [.string x.1, .int .i64 x.2.1, .int .i64 x.2.2]
def arCells (x : ByteArray × Int) : List Value := [.string x.1, .int .i64 x.2]
def mdCells (x : ByteArray × ByteArray × Int × Int) : List Value := [.string x.1, .string x.2.1, .int .i64 x.2.2.1, .int .i64 x.2.2.2]
def clCells (x : Int × Int) : List Value := [.int .i64 x.1, .int .i64 x.2]
def shCells (x : ByteArray × Int × ByteArray) : List Value := [.string x.1, .int .i64 x.2.1, .string x.2.2]
/-- Cell k of element i of a list whose elements have the same number of cells. -/
theorem flat_at {α : Type} (f : α → List Value) (q : Nat) (hf : ∀ x, (f x).length = q) : ∀ (l : List α) (i k : Nat) (hi : i < l.length) (u : Value), (f l[i])[k]? = some u → (l.flatMap f)[i * q + k]? = some u
  | [], i, k, hi, u, _ => by simp at hi
  | x :: l, 0, k, _, u, h => by
    have hk : k < (f x).length := (List.getElem?_eq_some_iff.1 h).1
    rw [List.flatMap_cons, Nat.zero_mul, Nat.zero_add, List.getElem?_append_left hk]
    exact h
  | x :: l, i + 1, k, hi, u, h => by
    rw [List.flatMap_cons, List.getElem?_append_right (by rw [hf, Nat.add_mul]; omega)]
    have := flat_at f q hf l i k (by simpa using hi) u h
    rw [hf, show (i + 1) * q + k - q = i * q + k by rw [Nat.add_mul]; omega]
    exact this
theorem flat_len {α : Type} (f : α → List Value) (q : Nat) (hf : ∀ x, (f x).length = q) : ∀ (l : List α), (l.flatMap f).length = l.length * q
  | [] => by simp
  | x :: l => by rw [List.flatMap_cons, List.length_append, hf, flat_len f q hf l, List.length_cons, Nat.add_mul]; omega

/-- A task. -/
structure Tsk where
  (name : ByteArray) (period deadline priority jitter : Int) (inputs : List (ByteArray × Int × Int)) (vars : List ByteArray) (arrays : List (ByteArray × Int)) (modes : List (ByteArray × ByteArray × Int × Int)) (claims : List (Int × Int)) (body : Sts)
/-- The cells of a task, and what lies below. -/
def Tsk.Row (t : Tsk) (w : World) (S : Nat → Prop) (xs : List Value) : Prop :=
  ∃ A5 c5 A6 c6 A7 c7 A8 c8 A9 c9 A10 c10, xs = [.string t.name, .int .i64 t.period, .int .i64 t.deadline, .int .i64 t.priority, .int .i64 t.jitter, .slice A5 t.inputs.length c5, .slice A6 t.vars.length c6, .slice A7 t.arrays.length c7, .slice A8 t.modes.length c8, .slice A9 t.claims.length c9, .slice A10 t.body.len c10] ∧
    Lies w S A5 t.inputs.length c5 3 (t.inputs.flatMap inCells) ∧ Lies w S A6 t.vars.length c6 1 (t.vars.map Value.string) ∧ Lies w S A7 t.arrays.length c7 2 (t.arrays.flatMap arCells) ∧
    Lies w S A8 t.modes.length c8 4 (t.modes.flatMap mdCells) ∧ Lies w S A9 t.claims.length c9 2 (t.claims.flatMap clCells) ∧ t.body.len ≤ c10 ∧ t.body.At w S A10
theorem Tsk.Row.keep {t : Tsk} {w w' : World} {S S' : Nat → Prop} {xs : List Value} (h : t.Row w S xs) (hz : w.heap.size ≤ w'.heap.size) (hk : ∀ b, S b → b < w.heap.size → S' b ∧ ∀ f, w'.cell? ⟨b, f, none⟩ = w.cell? ⟨b, f, none⟩) : t.Row w' S' xs := by
  obtain ⟨A5, c5, A6, c6, A7, c7, A8, c8, A9, c9, A10, c10, e, h5, h6, h7, h8, h9, h10, h11⟩ := h
  exact ⟨A5, c5, A6, c6, A7, c7, A8, c8, A9, c9, A10, c10, e, h5.keep hz hk, h6.keep hz hk, h7.keep hz hk, h8.keep hz hk, h9.keep hz hk, h10, h11.keep hz hk⟩
theorem Tsk.Row.len {t : Tsk} {w : World} {S : Nat → Prop} {xs : List Value} (h : t.Row w S xs) : xs.length = 11 := by
  obtain ⟨_, _, _, _, _, _, _, _, _, _, _, _, rfl, _⟩ := h
  rfl
/-- The cells of a list of tasks. -/
def Tsks (w : World) (S : Nat → Prop) : List Tsk → List Value → Prop
  | [], xs => xs = []
  | t :: l, xs => ∃ ys zs, xs = ys ++ zs ∧ t.Row w S ys ∧ Tsks w S l zs
theorem Tsks.keep {w w' : World} {S S' : Nat → Prop} (hz : w.heap.size ≤ w'.heap.size) (hk : ∀ b, S b → b < w.heap.size → S' b ∧ ∀ f, w'.cell? ⟨b, f, none⟩ = w.cell? ⟨b, f, none⟩) : ∀ {l : List Tsk} {xs : List Value}, Tsks w S l xs → Tsks w' S' l xs
  | [], _, h => h
  | _ :: _, _, ⟨ys, zs, e, h1, h2⟩ => ⟨ys, zs, e, h1.keep hz hk, Tsks.keep hz hk h2⟩
theorem Tsks.len {w : World} {S : Nat → Prop} : ∀ {l : List Tsk} {xs : List Value}, Tsks w S l xs → xs.length = l.length * 11
  | [], _, h => by rw [h]; rfl
  | _ :: _, _, ⟨ys, zs, e, h1, h2⟩ => by rw [e, List.length_append, h1.len, Tsks.len h2, List.length_cons]; omega
theorem Tsks.app {w : World} {S : Nat → Prop} {t : Tsk} {ys : List Value} (ht : t.Row w S ys) : ∀ {l : List Tsk} {xs : List Value}, Tsks w S l xs → Tsks w S (l ++ [t]) (xs ++ ys)
  | [], _, h => by rw [h]; exact ⟨ys, [], by simp, ht, rfl⟩
  | _ :: _, _, ⟨y1, z1, e, h1, h2⟩ => ⟨y1, z1 ++ ys, by rw [e, List.append_assoc], h1, Tsks.app ht h2⟩
theorem Tsks.at {w : World} {S : Nat → Prop} : ∀ {l : List Tsk} {xs : List Value} (_ : Tsks w S l xs) (i : Nat) (_ : i < l.length), ∃ ys, l[i].Row w S ys ∧ ∀ k u, ys[k]? = some u → xs[i * 11 + k]? = some u
  | [], _, _, i, hi => by simp at hi
  | t :: l, _, ⟨ys, zs, e, h1, h2⟩, 0, _ => ⟨ys, h1, fun k u hu => by rw [e, Nat.zero_mul, Nat.zero_add, List.getElem?_append_left (List.getElem?_eq_some_iff.1 hu).1]; exact hu⟩
  | t :: l, _, ⟨ys, zs, e, h1, h2⟩, i + 1, hi => by
    obtain ⟨y, q1, q2⟩ := Tsks.at h2 i (by simpa using hi)
    refine ⟨y, q1, fun k u hu => ?_⟩
    rw [e, List.getElem?_append_right (by rw [h1.len]; omega), h1.len, show (i + 1) * 11 + k - 11 = i * 11 + k by omega]
    exact q2 k u hu
structure Pg where
  (resources : List ByteArray) (shared : List (ByteArray × Int × ByteArray)) (tasks : List Tsk)
/-- A program's value: three slices, and what lies below. -/
def Pg.At (p : Pg) (w : World) (S : Nat → Prop) (v : Value) : Prop :=
  ∃ A0 c0 A1 c1 A2 c2 xs, v = .agg #[.slice A0 p.resources.length c0, .slice A1 p.shared.length c1, .slice A2 p.tasks.length c2] ∧ Lies w S A0 p.resources.length c0 1 (p.resources.map Value.string) ∧
    Lies w S A1 p.shared.length c1 3 (p.shared.flatMap shCells) ∧ Lies w S A2 p.tasks.length c2 11 xs ∧ Tsks w S p.tasks xs
theorem Pg.At.keep {p : Pg} {w w' : World} {S S' : Nat → Prop} {v : Value} (h : p.At w S v) (hz : w.heap.size ≤ w'.heap.size) (hk : ∀ b, S b → b < w.heap.size → S' b ∧ ∀ f, w'.cell? ⟨b, f, none⟩ = w.cell? ⟨b, f, none⟩) : p.At w' S' v := by
  obtain ⟨A0, c0, A1, c1, A2, c2, xs, e, h0, h1, h2, h3⟩ := h
  exact ⟨A0, c0, A1, c1, A2, c2, xs, e, h0.keep hz hk, h1.keep hz hk, h2.keep hz hk, h3.keep hz hk⟩
/-! ### What the generator makes, in bounds -/
def inOk (x : ByteArray × Int × Int) : Prop := Nm x.1 ∧ (-2 ≤ x.2.1 ∧ x.2.1 ≤ 3) ∧ (x.2.1 ≤ x.2.2 ∧ x.2.2 ≤ x.2.1 + 11)
def few : ByteArray := ⟨#[102, 101, 119]⟩
structure Tsk.Ok (t : Tsk) : Prop where
  name : ∃ i : Nat, i < 6 ∧ t.name = ⟨#[116, UInt8.ofNat (97 + i)]⟩
  nums : (2000 ≤ t.period ∧ t.period ≤ 6000) ∧ (1600 ≤ t.deadline ∧ t.deadline ≤ t.period) ∧ (1 ≤ t.priority ∧ t.priority ≤ 5) ∧ (0 ≤ t.jitter ∧ t.jitter ≤ 30)
  inputs : t.inputs.length ≤ 2 ∧ ∀ x ∈ t.inputs, inOk x
  vars : t.vars = [⟨#[105]⟩, ⟨#[107]⟩, ⟨#[110]⟩]
  arrays : t.arrays.length ≤ 1 ∧ ∀ x ∈ t.arrays, Nm x.1 ∧ (1 ≤ x.2 ∧ x.2 ≤ 8)
  modes : t.modes.length ≤ 1 ∧ ∀ x ∈ t.modes, x.1 = few ∧ Nm x.2.1 ∧ (-2 ≤ x.2.2.1 ∧ x.2.2.1 ≤ 14) ∧ (x.2.2.1 ≤ x.2.2.2 ∧ x.2.2.2 ≤ 14)
  claims : t.claims.length ≤ 1 ∧ ∀ x ∈ t.claims, (1 ≤ x.1 ∧ x.1 ≤ 12) ∧ (1 ≤ x.2 ∧ x.2 ≤ 12)
  body : t.body.Good ∧ t.body.height ≤ 4 ∧ t.body.len ≤ 10
structure Pg.Ok (p : Pg) : Prop where
  resources : p.resources.length ≤ 2 ∧ ∀ x ∈ p.resources, Nm x
  shared : p.shared.length ≤ 1 ∧ ∀ x ∈ p.shared, Nm x.1 ∧ (1 ≤ x.2.1 ∧ x.2.1 ≤ 8) ∧ Nm x.2.2
  tasks : p.tasks.length ≤ 6 ∧ ∀ t ∈ p.tasks, t.Ok
end Go.Proofs.YtbppfhlpielpcaaDoor
