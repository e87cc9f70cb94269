/- The parser's builder: its operators' maps, its state in memory, its small functions. No condition. -/
import Derived.Test.YtaabhlkhddkglaaDoorStBase
import Derived.Test.YtaabhlkhddkglaaDoorLawKit
import Derived.Test.YtaabhlkhddkglaaDoorPlRow
import Derived.Lib.Strings
import Derived.Laws.Rows
import Derived.Laws.OwnMore
import Derived.Laws.AppendOwn
import Derived.Laws.EntriesVeiled
import Derived.Deep.AppendLies
import Derived.Deep.DeepCutAuto
import Derived.Deep.CutBlock
import Derived.Deep.RegionWith
import Derived.Deep.RegionLaw
import Derived.LoopN
import Derived.Deep.Onto
import Derived.Carry
import Derived.StringKeys
import Derived.Maps.Own
import Derived.WideMake
import Derived.Below
namespace Go.Proofs.YtaabhlkhddkglaaDoor
open Go.RowKit Go.Maps Go.WideMaps Go.WideElems
set_option linter.unusedVariables false
set_option linter.unusedSimpArgs false
attribute [local go_sem] y_undef
/-! ### Maps of numbers by texts -/
theorem Tryd.strKey : Keyed Tryd.prog 9 := string_keyed Tryd.underlying9
def mapI : List (List UInt8 × Int) → DataW Unit
  | [] => .map []
  | k :: r => (mapI r).put (.string k.1) (.lit (.int .i64 k.2))
abbrev OwnI (w : World) (b n : Nat) (l : List (List UInt8 × Int)) : Prop := w.ownsMap Tryd.prog 9 (plainElem (H := Unit) Tryd.prog 3) b n (mapI l)
theorem put_int {w w0 : World} {b n c : Nat} {l : List (List UInt8 × Int)} (h : OwnI w0 b n l) (hb : Below c w w0) (hn : n < 100) (s : ByteArray) (z : Int) (hs : s.size ≤ 100) (hz : (Lit.int .i64 z).wf = true) (hc : c ≤ b) :
    ∃ w1, (Instr.mapUpdate 98 (.map (some b)) (.string s) (.int .i64 z)).run Tryd.prog w0 = .ok () w1 ∧ OwnI w1 b (n + 1) ((s.data.toList, z) :: l) ∧ Below c w w1 := by
  have hlt := h.lt
  obtain ⟨w1, hr, ho, hg⟩ := World.ownsMap.update (t := 98) (e := 3) h Tryd.strKey Tryd.underlying98 (by unfold maxLen; omega) (keyOf_string_mk (s := s) Tryd.underlying9 (by unfold maxLen; omega)) (plainElem_int (H := Unit) Tryd.underlying3 hz)
  exact ⟨w1, hr, ho, hb.grown hg (by omega) (fun k hk => by cases hk; exact hc)⟩
-- LINES
def signs1 : List (List UInt8 × Int) := [([33, 61], 14), ([61, 61], 13), ([60, 61], 12), ([60], 11)]
def signs2 : List (List UInt8 × Int) := [([94], 8), ([124], 7), ([45], 2), ([43], 1)]
def signs3 : List (List UInt8 × Int) := [([62, 62], 10), ([60, 60], 9), ([38], 6), ([37], 5), ([47], 4), ([42], 3)]
/-- A finder: its map lies in block m, in box g. -/
def Fnd (w : World) (base g m : Nat) (l : List (List UInt8 × Int)) : Prop := base ≤ g ∧ base ≤ m ∧ g < w.heap.size ∧ m < w.heap.size ∧ w.cell? ⟨g, 0, none⟩ = some (.map (some m)) ∧ OwnI w m l.length l
abbrev fnd (g : Nat) : Value := .func (.func 78) #[] #[.pointer (some ⟨g, 0, none⟩)]
theorem Fnd.grown {w w' : World} {base g m : Nat} {l : List (List UInt8 × Int)} {row : Option Nat} (h : Fnd w base g m l) (hg : w.grownBy w' row) (h1 : row ≠ some g) (h2 : row ≠ some m) : Fnd w' base g m l := by
  obtain ⟨a, b, c, d, e, f⟩ := h
  refine ⟨a, b, Nat.lt_of_lt_of_le c hg.size, Nat.lt_of_lt_of_le d hg.size, (World.cell?_of_block (a := ⟨g, 0, none⟩) (hg.block g c (fun h => h1 h.symm))).trans e, ?_⟩
  obtain ⟨es, clock, hb, F, hs⟩ := f
  exact ⟨es, clock, (hg.block m d (fun h => h2 h.symm)).trans hb, F, hs⟩
theorem Fnd.below {w w' : World} {base g m : Nat} {l : List (List UInt8 × Int)} (h : Fnd w base g m l) (hb : Below w.heap.size w w') : Fnd w' base g m l :=
  h.grown (row := none) ⟨hb.os, hb.tape, hb.output, hb.size, fun k hk _ => hb.block k hk⟩ (by simp) (by simp)
theorem Fnd.mono {w : World} {base base' g m : Nat} {l : List (List UInt8 × Int)} (h : Fnd w base g m l) (hb : base' ≤ base) : Fnd w base' g m l := ⟨Nat.le_trans hb h.1, Nat.le_trans hb h.2.1, h.2.2⟩
theorem set_gr (u : World) (g j : Nat) (v : Value) : u.grownBy (u.setCell ⟨g, j, none⟩ v) (some g) :=
  ⟨rfl, rfl, rfl, by simp, fun k hk hne => Below.heap_setCell _ _ _ _ (fun e => hne (by rw [e]))⟩
theorem _root_.Go.World.grownBy.trans' {w w' w'' : World} {r : Option Nat} (h : w.grownBy w' r) (k : w'.grownBy w'' r) : w.grownBy w'' r :=
  ⟨k.os.trans h.os, k.tape.trans h.tape, k.output.trans h.output, Nat.le_trans h.size k.size, fun b hb hne => (k.block b (Nat.lt_of_lt_of_le hb h.size) hne).trans (h.block b hb hne)⟩
theorem among_any (m : Nat) (w : World) : Calls Tryd.prog 64 #[.map (some m)] w fun e w' => e = .returned (fnd w.heap.size) ∧ w' = w.alloc (.cells #[.map (some m)] 98) := by
  go_enter Tryd.func64, Tryd.ntmps64
  go_wp2
  go_ret
  exact ⟨rfl, rfl⟩
set_option maxHeartbeats 4000000 in
set_option maxRecDepth 100000 in
theorem lines_any (w : World) : Calls Tryd.prog 55 #[] w fun e w' => ∃ g1 g2 g3 m1 m2 m3, e = .returned (.agg #[.nilFunc, fnd g1, fnd g2, fnd g3]) ∧ Fnd w' w.heap.size g1 m1 signs1 ∧ Fnd w' w.heap.size g2 m2 signs2 ∧ Fnd w' w.heap.size g3 m3 signs3 ∧ Below w.heap.size w w' := by
  have hmm := @run_makeMap Tryd.prog
  have hres := (Ahead.refl w).alloc (.cells #[.nilFunc, .nilFunc, .nilFunc, .nilFunc] 76)
  obtain ⟨u0, hu0⟩ : ∃ u, w.alloc (.cells #[.nilFunc, .nilFunc, .nilFunc, .nilFunc] 76) = u := ⟨_, rfl⟩
  have A0 : Ahead 1 w u0 := hu0 ▸ hres
  have h0_0 : OwnI (u0.alloc (.map #[] 0)) u0.heap.size 0 [] := World.ownsMap_made _ _ _ _
  have b0_0 : Below u0.heap.size u0 (u0.alloc (.map #[] 0)) := (Below.refl _ _).alloc (Nat.le_refl _) _
  obtain ⟨w0_1, r0_1, h0_1, b0_1⟩ := put_int h0_0 b0_0 (by omega) ⟨#[60]⟩ 11 (by decide) (by decide) (Nat.le_refl _)
  clear h0_0 b0_0
  obtain ⟨w0_2, r0_2, h0_2, b0_2⟩ := put_int h0_1 b0_1 (by omega) ⟨#[60, 61]⟩ 12 (by decide) (by decide) (Nat.le_refl _)
  clear h0_1 b0_1
  obtain ⟨w0_3, r0_3, h0_3, b0_3⟩ := put_int h0_2 b0_2 (by omega) ⟨#[61, 61]⟩ 13 (by decide) (by decide) (Nat.le_refl _)
  clear h0_2 b0_2
  obtain ⟨w0_4, r0_4, h0_4, b0_4⟩ := put_int h0_3 b0_3 (by omega) ⟨#[33, 61]⟩ 14 (by decide) (by decide) (Nat.le_refl _)
  clear h0_3 b0_3
  have F1 := Lib.hid (show Fnd (w0_4.alloc (.cells #[.map (some u0.heap.size)] 98)) u0.heap.size w0_4.heap.size u0.heap.size signs1 from
    ⟨b0_4.size, Nat.le_refl _, by simp, by have := h0_4.lt; simp; omega, by simp, by
      obtain ⟨es, clock, hb, F, hs⟩ := h0_4
      exact ⟨es, clock, (heap_alloc_old _ _ (by obtain ⟨h9, _⟩ := Array.getElem?_eq_some_iff.1 hb; exact h9)).trans hb, F, hs⟩⟩)
  have B1 := Lib.hid (b0_4.alloc b0_4.size (.cells #[.map (some u0.heap.size)] 98))
  obtain ⟨u1, hu1⟩ : ∃ u, (w0_4.alloc (.cells #[.map (some u0.heap.size)] 98)) = u := ⟨_, rfl⟩
  rw [hu1] at F1 B1
  have z0 : u0.heap.size < w0_4.heap.size := h0_4.lt
  have y0 : w0_4.heap.size < u1.heap.size := by rw [← hu1]; simp
  clear h0_4 b0_4
  have h1_0 : OwnI (u1.alloc (.map #[] 0)) u1.heap.size 0 [] := World.ownsMap_made _ _ _ _
  have b1_0 : Below u1.heap.size u1 (u1.alloc (.map #[] 0)) := (Below.refl _ _).alloc (Nat.le_refl _) _
  obtain ⟨w1_1, r1_1, h1_1, b1_1⟩ := put_int h1_0 b1_0 (by omega) ⟨#[43]⟩ 1 (by decide) (by decide) (Nat.le_refl _)
  clear h1_0 b1_0
  obtain ⟨w1_2, r1_2, h1_2, b1_2⟩ := put_int h1_1 b1_1 (by omega) ⟨#[45]⟩ 2 (by decide) (by decide) (Nat.le_refl _)
  clear h1_1 b1_1
  obtain ⟨w1_3, r1_3, h1_3, b1_3⟩ := put_int h1_2 b1_2 (by omega) ⟨#[124]⟩ 7 (by decide) (by decide) (Nat.le_refl _)
  clear h1_2 b1_2
  obtain ⟨w1_4, r1_4, h1_4, b1_4⟩ := put_int h1_3 b1_3 (by omega) ⟨#[94]⟩ 8 (by decide) (by decide) (Nat.le_refl _)
  clear h1_3 b1_3
  have F2 := Lib.hid (show Fnd (w1_4.alloc (.cells #[.map (some u1.heap.size)] 98)) u1.heap.size w1_4.heap.size u1.heap.size signs2 from
    ⟨b1_4.size, Nat.le_refl _, by simp, by have := h1_4.lt; simp; omega, by simp, by
      obtain ⟨es, clock, hb, F, hs⟩ := h1_4
      exact ⟨es, clock, (heap_alloc_old _ _ (by obtain ⟨h9, _⟩ := Array.getElem?_eq_some_iff.1 hb; exact h9)).trans hb, F, hs⟩⟩)
  have B2 := Lib.hid (b1_4.alloc b1_4.size (.cells #[.map (some u1.heap.size)] 98))
  obtain ⟨u2, hu2⟩ : ∃ u, (w1_4.alloc (.cells #[.map (some u1.heap.size)] 98)) = u := ⟨_, rfl⟩
  rw [hu2] at F2 B2
  have z1 : u1.heap.size < w1_4.heap.size := h1_4.lt
  have y1 : w1_4.heap.size < u2.heap.size := by rw [← hu2]; simp
  clear h1_4 b1_4
  have h2_0 : OwnI (u2.alloc (.map #[] 0)) u2.heap.size 0 [] := World.ownsMap_made _ _ _ _
  have b2_0 : Below u2.heap.size u2 (u2.alloc (.map #[] 0)) := (Below.refl _ _).alloc (Nat.le_refl _) _
  obtain ⟨w2_1, r2_1, h2_1, b2_1⟩ := put_int h2_0 b2_0 (by omega) ⟨#[42]⟩ 3 (by decide) (by decide) (Nat.le_refl _)
  clear h2_0 b2_0
  obtain ⟨w2_2, r2_2, h2_2, b2_2⟩ := put_int h2_1 b2_1 (by omega) ⟨#[47]⟩ 4 (by decide) (by decide) (Nat.le_refl _)
  clear h2_1 b2_1
  obtain ⟨w2_3, r2_3, h2_3, b2_3⟩ := put_int h2_2 b2_2 (by omega) ⟨#[37]⟩ 5 (by decide) (by decide) (Nat.le_refl _)
  clear h2_2 b2_2
  obtain ⟨w2_4, r2_4, h2_4, b2_4⟩ := put_int h2_3 b2_3 (by omega) ⟨#[38]⟩ 6 (by decide) (by decide) (Nat.le_refl _)
  clear h2_3 b2_3
  obtain ⟨w2_5, r2_5, h2_5, b2_5⟩ := put_int h2_4 b2_4 (by omega) ⟨#[60, 60]⟩ 9 (by decide) (by decide) (Nat.le_refl _)
  clear h2_4 b2_4
  obtain ⟨w2_6, r2_6, h2_6, b2_6⟩ := put_int h2_5 b2_5 (by omega) ⟨#[62, 62]⟩ 10 (by decide) (by decide) (Nat.le_refl _)
  clear h2_5 b2_5
  have F3 := Lib.hid (show Fnd (w2_6.alloc (.cells #[.map (some u2.heap.size)] 98)) u2.heap.size w2_6.heap.size u2.heap.size signs3 from
    ⟨b2_6.size, Nat.le_refl _, by simp, by have := h2_6.lt; simp; omega, by simp, by
      obtain ⟨es, clock, hb, F, hs⟩ := h2_6
      exact ⟨es, clock, (heap_alloc_old _ _ (by obtain ⟨h9, _⟩ := Array.getElem?_eq_some_iff.1 hb; exact h9)).trans hb, F, hs⟩⟩)
  have B3 := Lib.hid (b2_6.alloc b2_6.size (.cells #[.map (some u2.heap.size)] 98))
  obtain ⟨u3, hu3⟩ : ∃ u, (w2_6.alloc (.cells #[.map (some u2.heap.size)] 98)) = u := ⟨_, rfl⟩
  rw [hu3] at F3 B3
  have z2 : u2.heap.size < w2_6.heap.size := h2_6.lt
  have y2 : w2_6.heap.size < u3.heap.size := by rw [← hu3]; simp
  clear h2_6 b2_6
  have hlt0 : w.heap.size < u0.heap.size := A0.lt0 (by omega)
  have hb3 : Below u0.heap.size u0 u3 := (B1.out.trans (B2.out.mono (by omega))).trans (B3.out.mono (by omega))
  have c0 : ∀ k, k < 4 → u3.cell? ⟨w.heap.size, k, none⟩ = some .nilFunc := fun k hk => (hb3.cell (p := ⟨w.heap.size, k, none⟩) hlt0).trans (by rw [← hu0]; rcases k with _ | _ | _ | _ | k <;> first | omega | simp)
  have d0 : ∀ k, u3.frozen? ⟨w.heap.size, k, none⟩ = false := fun k => (hb3.frozen (p := ⟨w.heap.size, k, none⟩) hlt0).trans (by rw [← hu0]; simp)
  have c00 := c0 0 (by omega)
  have c01 := c0 1 (by omega)
  have c02 := c0 2 (by omega)
  have c03 := c0 3 (by omega)
  have d00 := d0 0
  have d01 := d0 1
  have d02 := d0 2
  have d03 := d0 3
  have HBw := Lib.hid (A0.1.trans (hb3.mono (by omega)))
  have HF1 := Lib.hid ((F1.out.below (B2.out.mono (by omega))).below (B3.out.mono (by omega)))
  have HF2 := Lib.hid (F2.out.below (B3.out.mono (by omega)))
  clear c0 d0 hres hb3 B1 B2 B3 F1 F2
  go_enter Tryd.func55, Tryd.ntmps55
  go_wp2_with (go_at_call 64; refine (among_any _ _).mono ?_; rintro e w' ⟨rfl, rfl⟩)
  have hg := ((set_gr u3 w.heap.size 0 .nilFunc).trans' (set_gr _ w.heap.size 1 (fnd w0_4.heap.size))).trans' ((set_gr _ w.heap.size 2 (fnd w1_4.heap.size)).trans' (set_gr _ w.heap.size 3 (fnd w2_6.heap.size)))
  refine bodyPost_ret (v := .agg #[.nilFunc, fnd w0_4.heap.size, fnd w1_4.heap.size, fnd w2_6.heap.size]) ?_ rfl ⟨_, _, _, _, _, _, rfl, (HF1.out.grown hg (by simp; omega) (by simp; omega)).mono (by omega), (HF2.out.grown hg (by simp; omega) (by simp; omega)).mono (by omega), (F3.out.grown hg (by simp; omega) (by simp; omega)).mono (by omega), HBw.out.grown hg HBw.out.size (fun k hk => by injection hk with hk; omega)⟩
  have hlt3 : w.heap.size < u3.heap.size := by omega
  simp [results, Tryd.results55, go_sem, c00, c01, c02, c03, hlt3]
end Go.Proofs.YtaabhlkhddkglaaDoor
