/- The specification of print: names, small numbers, shapes. No condition. -/
import Derived.Test.YtaabhlkhddkglaaDoorPrExpr
namespace Go.Proofs.YtaabhlkhddkglaaDoor
open Go.RowKit Tk
set_option linter.unusedVariables false
abbrev kwVals : Array Value := (kwNames.map Value.string).toArray
set_option maxRecDepth 100000 in
set_option maxHeartbeats 1000000 in
theorem kw_no (s : ByteArray) (hs : NoKw s) (w : World) : Calls Tryd.prog 34 #[.string s] w fun e w' => e = .returned (.bool false) ∧ Below w.heap.size w w' := by
  have HC := Lib.hid (fun k (hk : k < 20) => (show (w.alloc (.cells kwVals 9)).cell? ⟨w.heap.size, k, none⟩ = some (.string (kwNames[k]'hk)) from by
    rw [(Blk.new w 9 kwVals).cell, List.getElem?_toArray, List.getElem?_map, List.getElem?_eq_getElem (show k < kwNames.length from hk)]
    rfl))
  have HE := Lib.hid (fun k (hk : k < 20) => hs (kwNames[k]'hk) (List.getElem_mem hk))
  have HB := Lib.hid ((Below.refl w.heap.size w).alloc (Nat.le_refl _) (.cells kwVals 9))
  clear hs
  go_enter Tryd.func34, Tryd.ntmps34
  go_wp2
  obtain ⟨w1, hw1⟩ : ∃ w1, w1 = w.alloc (.cells kwVals 9) := ⟨_, rfl⟩
  change Code.wp _ _ _ _ (w.alloc (.cells kwVals 9))
  rw [← hw1] at HC HB ⊢
  clear hw1
  go_loopw [4] (fun i wr => ∃ k : Nat, k ≤ 20 ∧ i = .int .i64 k ∧ Hid (wr = w1)) (fun i _ => 20 - (intOf i).toNat)
  case atStart => exact ⟨0, by omega, rfl, Lib.hid rfl⟩
  case round =>
    obtain ⟨k, hk, rfl, hw⟩ := hrel
    have hw' := hw.out
    subst hw'
    clear hw
    by_cases hlt : k < 20
    · have hlt' : (k : Int) < 20 := by omega
      have hc := HC.out k hlt
      have he := HE.out k hlt
      generalize kwNames[k]'hlt = p at *
      have he' : (p.toList == s.toList) = false := by rw [Lib.toList_data, Lib.toList_data, Bool.beq_comm]; exact he
      clear he
      go_wp2_with fail
      go_roundw
      case rel => exact ⟨k + 1, by omega, by go_num, (by first | exact Lib.hid rfl | exact Lib.hid trivial)⟩
      case measure => simp [intOf]; omega
    · have hlt' : ¬ (k : Int) < 20 := by omega
      go_wp2
      go_ret
      exact ⟨rfl, HB.out⟩
set_option maxHeartbeats 1000000 in
theorem name4_any (s : ByteArray) (hs : nmB s = true) (w : World) : Calls Tryd.prog 26 #[.string s] w fun e w' => e = .returned (.bool true) ∧ Below w.heap.size w w' := by
  have hz := nm_size hs
  unfold nmB at hs
  rw [Bool.and_eq_true] at hs
  have HK := Lib.hid (noKw (by simpa using hs.2))
  have HN := Lib.hid (fun u => rname_any s (by unfold maxLen; omega) u)
  rw [hs.1] at HN
  clear hs hz
  go_enter Tryd.func26, Tryd.ntmps26
  go_wp2_with fail
  refine (HN.out _).mono ?_
  rintro e w1 ⟨rfl, rfl⟩
  go_wp2_with fail
  refine (kw_no s HK.out _).mono ?_
  rintro e w2 ⟨rfl, hb⟩
  have HB := Lib.hid hb
  clear hb
  go_wp2_with fail
  go_ret
  exact ⟨rfl, HB.out⟩
theorem small_any (n : Int) (h : -2147483647 ≤ n ∧ n ≤ 2147483647) (w : World) : Calls Tryd.prog 25 #[.int .i64 n] w fun e w' => e = .returned (.bool true) ∧ w = w' := by
  obtain ⟨h1, h2⟩ := h
  have d1 : decide (-2147483648 < n) = true := by simp; omega
  have d2 : decide (n < 2147483648) = true := by simp; omega
  go_enter Tryd.func25, Tryd.ntmps25
  go_wp2
  go_ret
  exact ⟨rfl, rfl⟩
set_option maxRecDepth 100000 in
set_option maxHeartbeats 2000000 in
theorem rshaped_any (N : Nat) : ∀ (a : Exs) (A : Option Addr) (c : Nat) (k n o d : Int) (s : ByteArray) (S : Nat → Prop) (w : World), a.height = N → shB k n s o a.len = true → a.sh → a.At w S A → 1 ≤ d → d + a.height ≤ 20 →
    Calls Tryd.prog 14 #[.agg #[.int .i64 k, .int .i64 n, .string s, .int .i64 o, .slice A a.len c], .int .i64 d] w fun e w' => e = .returned (.bool true) ∧ Below w.heap.size w w' := by
  induction N using Nat.strongRecOn with
  | _ N ih =>
    intro a A c k n o d s S w hh hnode hgood hat h1 h20
    have IH := Lib.hid ih
    have HW := Lib.hid (And.intro hgood (And.intro hat (And.intro hh h20)))
    have hd20 : d ≤ 20 := by omega
    have hd' : decide (20 < d) = false := by simp; omega
    have HA := Lib.hid ((Below.refl w.heap.size w).alloc (Nat.le_refl _) (.cells (exV k n o s A a.len c) 26))
    have HX := Lib.hid (Blk.new w 26 (exV k n o s A a.len c))
    clear ih hh hgood hat h20
    rcases sh_cases hnode with ⟨rfl, hn, rfl, rfl, hl⟩ | ⟨rfl, rfl, hs, rfl, hl⟩ | ⟨rfl, rfl, hs, rfl, hl⟩ | ⟨rfl, rfl, rfl, ho, hl⟩
    · rw [hl] at HA HX ⊢
      clear hl hnode
      go_enter Tryd.func14, Tryd.ntmps14
      go_wp2_with fail
      refine (small_any n hn _).mono ?_
      rintro e w1 ⟨rfl, rfl⟩
      go_wp2_with fail
      go_ret
      exact ⟨rfl, HA.out⟩
    · rw [hl] at HA HX ⊢
      clear hl hnode
      go_enter Tryd.func14, Tryd.ntmps14
      go_wp2_with fail
      refine (name4_any s hs _).mono ?_
      rintro e w1 ⟨rfl, hb⟩
      have x1 := (HX.out.below hb HX.out.lt).cell 1
      have x3 := (HX.out.below hb HX.out.lt).cell 3
      have x4 := (HX.out.below hb HX.out.lt).cell 4
      have HB := Lib.hid (HA.out.trans (hb.mono (by simp)))
      clear hb
      go_wp2_with fail
      go_ret
      exact ⟨rfl, HB.out⟩
    · obtain ⟨b, f, rfl⟩ := HW.out.2.1.some (by omega)
      obtain ⟨k0, n0, s0, o0, a0, B0, c0, hb0, hd0, hc0, ha0⟩ := at_cells HW.out.2.1 (i := 0) (g := f) (by omega) (by omega)
      have hg0 := HW.out.1.drop 0
      have hh0 := Exs.drop_height a 0
      rw [hd0] at hg0 hh0
      simp only [Exs.height] at hh0
      have HC := Lib.hid (fun (W : World) (hb : Below w.heap.size w W) => IH.out a0.height (by have := HW.out.2.2.1; omega) a0 B0 c0 k0 n0 o0 (d + 1) s0 S W rfl hg0.1 hg0.2.1 (ha0.keep hb.size fun q hq hl => ⟨hq, fun f => hb.cell (p := ⟨q, f, none⟩) hl⟩) (by omega) (by have := HW.out.2.2.2; omega))
      have HF := Lib.hid (fun (W : World) (hb : Below w.heap.size w W) => five_below hb hb0 hc0)
      rw [hl] at HA HX ⊢
      clear hl hnode hd0 hc0 ha0 hg0 hh0
      go_enter Tryd.func14, Tryd.ntmps14
      go_wp2_with fail
      refine (name4_any s hs _).mono ?_
      rintro e w1 ⟨rfl, hb⟩
      have x1 := (HX.out.below hb HX.out.lt).cell 1
      have x3 := (HX.out.below hb HX.out.lt).cell 3
      have x4 := (HX.out.below hb HX.out.lt).cell 4
      have HB := Lib.hid (HA.out.trans (hb.mono (by simp)))
      obtain ⟨y0, y1, y2, y3, y4⟩ := HF.out _ HB.out
      clear hb
      go_wp2_with fail
      refine (HC.out _ HB.out).mono ?_
      rintro e w2 ⟨rfl, hb2⟩
      have HB2 := Lib.hid (HB.out.trans (hb2.mono HB.out.size))
      clear hb2
      go_wp2_with fail
      go_ret
      exact ⟨rfl, HB2.out⟩
    · obtain ⟨b, f, rfl⟩ := HW.out.2.1.some (by omega)
      obtain ⟨k0, n0, s0, o0, a0, B0, c0, hb0, hd0, hc0, ha0⟩ := at_cells HW.out.2.1 (i := 0) (g := f) (by omega) (by omega)
      obtain ⟨k1, n1, s1, o1, a1, B1, c1, hb1, hd1, hc1, ha1⟩ := at_cells HW.out.2.1 (i := 1) (g := f + 5) (by omega) (by omega)
      have hg0 := HW.out.1.drop 0
      have hh0 := Exs.drop_height a 0
      rw [hd0] at hg0 hh0
      simp only [Exs.height] at hh0
      have hg1 := HW.out.1.drop 1
      have hh1 := Exs.drop_height a 1
      rw [hd1] at hg1 hh1
      simp only [Exs.height] at hh1
      have HC := Lib.hid (fun (W : World) (hb : Below w.heap.size w W) => IH.out a0.height (by have := HW.out.2.2.1; omega) a0 B0 c0 k0 n0 o0 (d + 1) s0 S W rfl hg0.1 hg0.2.1 (ha0.keep hb.size fun q hq hl => ⟨hq, fun f => hb.cell (p := ⟨q, f, none⟩) hl⟩) (by omega) (by have := HW.out.2.2.2; omega))
      have HC1 := Lib.hid (fun (W : World) (hb : Below w.heap.size w W) => IH.out a1.height (by have := HW.out.2.2.1; omega) a1 B1 c1 k1 n1 o1 (d + 1) s1 S W rfl hg1.1 hg1.2.1 (ha1.keep hb.size fun q hq hl => ⟨hq, fun f => hb.cell (p := ⟨q, f, none⟩) hl⟩) (by omega) (by have := HW.out.2.2.2; omega))
      have HF1 := Lib.hid (fun (W : World) (hb : Below w.heap.size w W) => five_below hb hb1 hc1)
      obtain ⟨y0, y1, y2, y3, y4⟩ := five_below HA.out hb0 hc0
      have hl0 : b ≠ w.heap.size := by omega
      rw [hl] at HA HX y0 y1 y2 y3 y4 ⊢
      obtain ⟨o1', o2'⟩ := ho
      clear hl hnode hd0 hc0 ha0 hg0 hh0 hd1 hc1 ha1 hg1 hh1
      go_enter Tryd.func14, Tryd.ntmps14
      go_wp2_with fail
      refine (HC.out _ HA.out).mono ?_
      rintro e w1 ⟨rfl, hb⟩
      have x4 := (HX.out.below hb HX.out.lt).cell 4
      have HB := Lib.hid (HA.out.trans (hb.mono (by simp)))
      obtain ⟨z0, z1, z2, z3, z4⟩ := HF1.out _ HB.out
      clear hb y0 y1 y2 y3 y4
      go_wp2_with fail
      refine (HC1.out _ HB.out).mono ?_
      rintro e w2 ⟨rfl, hb2⟩
      have HB2 := Lib.hid (HB.out.trans (hb2.mono HB.out.size))
      clear hb2
      go_wp2_with fail
      go_ret
      exact ⟨rfl, HB2.out⟩
end Go.Proofs.YtaabhlkhddkglaaDoor
