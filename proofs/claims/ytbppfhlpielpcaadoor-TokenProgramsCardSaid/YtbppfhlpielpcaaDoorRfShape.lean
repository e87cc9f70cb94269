/- The specification's shapes: what the generator makes has them. -/
import Derived.Test.YtbppfhlpielpcaaDoorRfName
namespace Go.Proofs.YtbppfhlpielpcaaDoor
open Go.RowKit Tk
set_option linter.unusedVariables false
theorem small_any (n : Int) (h : -2147483647 ≤ n ∧ n ≤ 2147483647) (w : World) : Calls Tryd.prog 53 #[.int .i64 n] w fun e w' => e = .returned (.bool true) ∧ w = w' := by
  obtain ⟨h1, h2⟩ := h
  have d1 : decide (-2147483648 < n) = true := by simp; omega
  have d2 : decide (n < 2147483648) = true := by simp; omega
  go_enter Tryd.func53, Tryd.ntmps53
  go_wp2
  go_ret
  exact ⟨rfl, rfl⟩
theorem plain_any (n : Int) (h : 0 ≤ n ∧ n ≤ 2147483647) (w : World) : Calls Tryd.prog 40 #[.int .i64 n] w fun e w' => e = .returned (.bool true) ∧ w = w' := by
  obtain ⟨h1, h2⟩ := h
  have d1 : decide (0 ≤ n) = true := by simp; omega
  have d2 : decide (n < 2147483648) = true := by simp; omega
  go_enter Tryd.func40, Tryd.ntmps40
  go_wp2
  go_ret
  exact ⟨rfl, rfl⟩
/-- The cells of element i. -/
theorem at_cells {w : World} {S : Nat → Prop} {t : Exs} {b f : Nat} (h : t.At w S (some ⟨b, f, none⟩)) {i g : Nat} (hi : i < t.len) (hg : g = f + i * 5) : ∃ k n s o a B c, b < w.heap.size ∧ t.drop i = .cons k n s o a (t.drop (i + 1)) ∧
    (w.cell? ⟨b, g, none⟩ = some (.int .i64 k) ∧ w.cell? ⟨b, g + 1, none⟩ = some (.int .i64 n) ∧ w.cell? ⟨b, g + 2, none⟩ = some (.string s) ∧ w.cell? ⟨b, g + 3, none⟩ = some (.int .i64 o) ∧ w.cell? ⟨b, g + 4, none⟩ = some (.slice B a.len c)) ∧ a.At w S B := by
  obtain ⟨b', f', k, n, s, o, a, B, c, e, hl, hd, hc, _, ha⟩ := at_elem h hi
  injection e with e
  injection e with e1 e2
  subst e1 e2 hg
  exact ⟨k, n, s, o, a, B, c, hl, hd, hc, ha⟩
theorem five_below {w W : World} {b g : Nat} {k n o : Int} {s : ByteArray} {B : Option Addr} {l c : Nat} (hb : Below w.heap.size w W) (hl : b < w.heap.size) (h : w.cell? ⟨b, g, none⟩ = some (.int .i64 k) ∧ w.cell? ⟨b, g + 1, none⟩ = some (.int .i64 n) ∧ w.cell? ⟨b, g + 2, none⟩ = some (.string s) ∧ w.cell? ⟨b, g + 3, none⟩ = some (.int .i64 o) ∧ w.cell? ⟨b, g + 4, none⟩ = some (.slice B l c)) :
    W.cell? ⟨b, g, none⟩ = some (.int .i64 k) ∧ W.cell? ⟨b, g + 1, none⟩ = some (.int .i64 n) ∧ W.cell? ⟨b, g + 2, none⟩ = some (.string s) ∧ W.cell? ⟨b, g + 3, none⟩ = some (.int .i64 o) ∧ W.cell? ⟨b, g + 4, none⟩ = some (.slice B l c) :=
  ⟨(hb.cell (p := ⟨b, g, none⟩) hl).trans h.1, (hb.cell (p := ⟨b, g + 1, none⟩) hl).trans h.2.1, (hb.cell (p := ⟨b, g + 2, none⟩) hl).trans h.2.2.1, (hb.cell (p := ⟨b, g + 3, none⟩) hl).trans h.2.2.2.1, (hb.cell (p := ⟨b, g + 4, none⟩) hl).trans h.2.2.2.2⟩
abbrev exV (k n o : Int) (s : ByteArray) (A : Option Addr) (l c : Nat) : Array Value := #[.int .i64 k, .int .i64 n, .string s, .int .i64 o, .slice A l c]
set_option maxRecDepth 100000 in
set_option maxHeartbeats 2000000 in
theorem shaped_any (N : Nat) : ∀ (a : Exs) (A : Option Addr) (c : Nat) (k n o d : Int) (s : ByteArray) (S : Nat → Prop) (w : World), a.height = N → Node k n s o a.len → a.Good → a.At w S A → 1 ≤ d → d + a.height ≤ 20 →
    Calls Tryd.prog 79 #[.agg #[.int .i64 k, .int .i64 n, .string s, .int .i64 o, .slice A a.len c], .int .i64 d] w fun e w' => e = .returned (.bool true) ∧ Below w.heap.size w w' := by
  induction N using Nat.strongRecOn with
  | _ N ih =>
    intro a A c k n o d s S w hh hnode hgood hat h1 h20
    have IH := Lib.hid ih
    have HW := Lib.hid (And.intro hgood (And.intro hat (And.intro hh h20)))
    have hd20 : d ≤ 20 := by omega
    have hd' : decide (20 < d) = false := by simp; omega
    have HA := Lib.hid ((Below.refl w.heap.size w).alloc (Nat.le_refl _) (.cells (exV k n o s A a.len c) 91))
    have HX := Lib.hid (Blk.new w 91 (exV k n o s A a.len c))
    clear ih hh hgood hat h20
    rcases hnode with ⟨rfl, hn, rfl, rfl, hl⟩ | ⟨rfl, rfl, hs, rfl, hl⟩ | ⟨rfl, rfl, hs, rfl, hl⟩ | ⟨rfl, rfl, rfl, ho, hl⟩
    · rw [hl] at HA HX ⊢
      clear hl
      go_enter Tryd.func79, Tryd.ntmps79
      go_wp2_with fail
      refine (small_any n hn _).mono ?_
      rintro e w1 ⟨rfl, rfl⟩
      go_wp2_with fail
      go_ret
      exact ⟨rfl, HA.out⟩
    · rw [hl] at HA HX ⊢
      clear hl
      go_enter Tryd.func79, Tryd.ntmps79
      go_wp2_with fail
      refine (name4_any s hs.nam _).mono ?_
      rintro e w1 ⟨rfl, hb⟩
      have x1 := (HX.out.below hb HX.out.lt).cell 1
      have x3 := (HX.out.below hb HX.out.lt).cell 3
      have x4 := (HX.out.below hb HX.out.lt).cell 4
      have HB := Lib.hid (HA.out.trans (hb.mono (by simp)))
      clear hb
      go_wp2_with fail
      go_ret
      exact ⟨rfl, HB.out⟩
    · obtain ⟨b, f, rfl⟩ := HW.out.2.1.some (by omega)
      obtain ⟨k0, n0, s0, o0, a0, B0, c0, hb0, hd0, hc0, ha0⟩ := at_cells HW.out.2.1 (i := 0) (g := f) (by omega) (by omega)
      have hg0 := HW.out.1.drop 0
      have hh0 := Exs.drop_height a 0
      rw [hd0] at hg0 hh0
      simp only [Exs.height] at hh0
      have HC := Lib.hid (fun (W : World) (hb : Below w.heap.size w W) => IH.out a0.height (by have := HW.out.2.2.1; omega) a0 B0 c0 k0 n0 o0 (d + 1) s0 S W rfl hg0.1 hg0.2.1 (ha0.keep hb.size fun q hq hl => ⟨hq, fun f => hb.cell (p := ⟨q, f, none⟩) hl⟩) (by omega) (by have := HW.out.2.2.2; omega))
      have HF := Lib.hid (fun (W : World) (hb : Below w.heap.size w W) => five_below hb hb0 hc0)
      rw [hl] at HA HX ⊢
      clear hl hd0 hc0 ha0 hg0 hh0
      go_enter Tryd.func79, Tryd.ntmps79
      go_wp2_with fail
      refine (name4_any s hs.nam _).mono ?_
      rintro e w1 ⟨rfl, hb⟩
      have x1 := (HX.out.below hb HX.out.lt).cell 1
      have x3 := (HX.out.below hb HX.out.lt).cell 3
      have x4 := (HX.out.below hb HX.out.lt).cell 4
      have HB := Lib.hid (HA.out.trans (hb.mono (by simp)))
      obtain ⟨y0, y1, y2, y3, y4⟩ := HF.out _ HB.out
      clear hb
      go_wp2_with fail
      refine (HC.out _ HB.out).mono ?_
      rintro e w2 ⟨rfl, hb2⟩
      have HB2 := Lib.hid (HB.out.trans (hb2.mono HB.out.size))
      clear hb2
      go_wp2_with fail
      go_ret
      exact ⟨rfl, HB2.out⟩
    · obtain ⟨b, f, rfl⟩ := HW.out.2.1.some (by omega)
      obtain ⟨k0, n0, s0, o0, a0, B0, c0, hb0, hd0, hc0, ha0⟩ := at_cells HW.out.2.1 (i := 0) (g := f) (by omega) (by omega)
      obtain ⟨k1, n1, s1, o1, a1, B1, c1, hb1, hd1, hc1, ha1⟩ := at_cells HW.out.2.1 (i := 1) (g := f + 5) (by omega) (by omega)
      have hg0 := HW.out.1.drop 0
      have hh0 := Exs.drop_height a 0
      rw [hd0] at hg0 hh0
      simp only [Exs.height] at hh0
      have hg1 := HW.out.1.drop 1
      have hh1 := Exs.drop_height a 1
      rw [hd1] at hg1 hh1
      simp only [Exs.height] at hh1
      have HC := Lib.hid (fun (W : World) (hb : Below w.heap.size w W) => IH.out a0.height (by have := HW.out.2.2.1; omega) a0 B0 c0 k0 n0 o0 (d + 1) s0 S W rfl hg0.1 hg0.2.1 (ha0.keep hb.size fun q hq hl => ⟨hq, fun f => hb.cell (p := ⟨q, f, none⟩) hl⟩) (by omega) (by have := HW.out.2.2.2; omega))
      have HC1 := Lib.hid (fun (W : World) (hb : Below w.heap.size w W) => IH.out a1.height (by have := HW.out.2.2.1; omega) a1 B1 c1 k1 n1 o1 (d + 1) s1 S W rfl hg1.1 hg1.2.1 (ha1.keep hb.size fun q hq hl => ⟨hq, fun f => hb.cell (p := ⟨q, f, none⟩) hl⟩) (by omega) (by have := HW.out.2.2.2; omega))
      have HF1 := Lib.hid (fun (W : World) (hb : Below w.heap.size w W) => five_below hb hb1 hc1)
      obtain ⟨y0, y1, y2, y3, y4⟩ := five_below HA.out hb0 hc0
      have hl0 : b ≠ w.heap.size := by omega
      rw [hl] at HA HX y0 y1 y2 y3 y4 ⊢
      obtain ⟨o1', o2'⟩ := ho
      clear hl hd0 hc0 ha0 hg0 hh0 hd1 hc1 ha1 hg1 hh1
      go_enter Tryd.func79, Tryd.ntmps79
      go_wp2_with fail
      refine (HC.out _ HA.out).mono ?_
      rintro e w1 ⟨rfl, hb⟩
      have x4 := (HX.out.below hb HX.out.lt).cell 4
      have HB := Lib.hid (HA.out.trans (hb.mono (by simp)))
      obtain ⟨z0, z1, z2, z3, z4⟩ := HF1.out _ HB.out
      clear hb y0 y1 y2 y3 y4
      go_wp2_with fail
      refine (HC1.out _ HB.out).mono ?_
      rintro e w2 ⟨rfl, hb2⟩
      have HB2 := Lib.hid (HB.out.trans (hb2.mono HB.out.size))
      clear hb2
      go_wp2_with fail
      go_ret
      exact ⟨rfl, HB2.out⟩
end Go.Proofs.YtbppfhlpielpcaaDoor
