/- The specification's printable: what the generator makes is printable. -/
import Derived.Test.YtbppfhlpielpcaaDoorRfTask
namespace Go.Proofs.YtbppfhlpielpcaaDoor
open Go.RowKit Tk
set_option linter.unusedVariables false
theorem lies_cell {w : World} {S : Nat → Prop} {A : Option Addr} {n c size : Nat} {xs : List Value} (h : Lies w S A n c size xs) (hn : 0 < n) : ∃ b f, A = some ⟨b, f, none⟩ ∧ ∀ W, Below w.heap.size w W → ∀ j u, xs[j]? = some u → W.cell? ⟨b, f + j, none⟩ = some u := by
  obtain ⟨_, _, ⟨h0, _⟩ | ⟨b, f, e, _, hl, hc⟩⟩ := h
  · omega
  · exact ⟨b, f, e, fun W hb j u hu => (hb.cell (p := ⟨b, f + j, none⟩) hl).trans (hc j u hu)⟩
set_option maxRecDepth 100000 in
set_option maxHeartbeats 6000000 in
theorem printable_any (p : Pg) (hp : p.Ok) (v : Value) (S : Nat → Prop) (w : World) (hr : p.At w S v) :
    Calls Tryd.prog 26 #[v] w fun e w' => e = .returned (.bool true) ∧ Below w.heap.size w w' := by
  obtain ⟨A0, c0, A1, c1, A2, c2, xs, rfl, h0, h1, h2, h3⟩ := hr
  obtain ⟨hre, hsh, htk⟩ := hp
  have HRe := Lib.hid (show Lies w S A0 p.resources.length c0 1 (p.resources.flatMap fun x => [Value.string x]) by rw [← strs_flat]; exact h0)
  have HRn := Lib.hid hre.2
  have HSh := Lib.hid (And.intro h1 hsh.2)
  have HTk := Lib.hid (And.intro h2 (And.intro h3 htk.2))
  have n0 : p.resources.length ≤ 2 := hre.1
  have n1 : p.shared.length ≤ 1 := hsh.1
  have n2 : p.tasks.length ≤ 6 := htk.1
  have HXp := Lib.hid (Blk.new w 32 #[.slice A0 p.resources.length c0, .slice A1 p.shared.length c1, .slice A2 p.tasks.length c2])
  have HBp := Lib.hid ((Below.refl w.heap.size w).alloc (Nat.le_refl _) (.cells #[.slice A0 p.resources.length c0, .slice A1 p.shared.length c1, .slice A2 p.tasks.length c2] 32))
  clear hre hsh htk h0 h1 h2 h3
  go_enter Tryd.func26, Tryd.ntmps26
  go_wp2_with fail
  go_loopw [3] (fun i wr => ∃ j : Nat, j ≤ p.resources.length ∧ i = .int .i64 j ∧ Hid (Below w.heap.size w wr ∧ Blk wr w.heap.size 32 #[.slice A0 p.resources.length c0, .slice A1 p.shared.length c1, .slice A2 p.tasks.length c2])) (fun i _ => p.resources.length - (intOf i).toNat)
  case atStart => exact ⟨0, Nat.zero_le _, rfl, Lib.hid ⟨HBp.out, HXp.out⟩⟩
  case round =>
    clear HBp HXp
    obtain ⟨j, hj, rfl, hR⟩ := hrel
    have HBp := Lib.hid hR.out.1
    have HXp := Lib.hid hR.out.2
    have x0 := HXp.out.cell 0
    have x1 := HXp.out.cell 1
    have x2 := HXp.out.cell 2
    clear hR
    by_cases hlt : j < p.resources.length
    · have hlt' : (j : Int) < (p.resources.length : Nat) := by omega
      obtain ⟨b, f, x, rfl, hxm, hxc⟩ := lies_at (fun x => [Value.string x]) 1 (fun _ => rfl) HRe.out hlt
      have HM := Lib.hid hxm
      have k0 := hxc _ HBp.out 0 _ rfl
      rw [Nat.add_zero, Nat.mul_one] at k0
      clear hxm hxc
      go_wp2_with fail
      refine (name4_any _ (HRn.out _ HM.out).nam _).mono ?_
      rintro e w1 ⟨rfl, hb⟩
      have HX1 := Lib.hid (HXp.out.below hb HXp.out.lt)
      have HB1 := Lib.hid (HBp.out.trans (hb.mono HBp.out.size))
      clear hb x0 x1 x2 k0
      go_wp2_with fail
      go_roundw
      case rel => exact ⟨j + 1, by omega, by go_num, Lib.hid ⟨HB1.out, HX1.out⟩⟩
      case measure => simp [intOf]; omega
    · have hlt' : ¬ (j : Int) < (p.resources.length : Nat) := by omega
      clear hlt
      go_wp2_with fail
      go_loopw [4] (fun i wr => ∃ j : Nat, j ≤ p.shared.length ∧ i = .int .i64 j ∧ Hid (Below w.heap.size w wr ∧ Blk wr w.heap.size 32 #[.slice A0 p.resources.length c0, .slice A1 p.shared.length c1, .slice A2 p.tasks.length c2])) (fun i _ => p.shared.length - (intOf i).toNat)
      case atStart => exact ⟨0, Nat.zero_le _, rfl, Lib.hid ⟨HBp.out, HXp.out⟩⟩
      case round =>
        clear HBp HXp
        obtain ⟨j, hj, rfl, hR⟩ := hrel
        have HBp := Lib.hid hR.out.1
        have HXp := Lib.hid hR.out.2
        have x0 := HXp.out.cell 0
        have x1 := HXp.out.cell 1
        have x2 := HXp.out.cell 2
        clear hR
        by_cases hlt : j < p.shared.length
        · have hlt' : (j : Int) < (p.shared.length : Nat) := by omega
          obtain ⟨b, f, x, rfl, hxm, hxc⟩ := lies_at shCells 3 (fun _ => rfl) HSh.out.1 hlt
          have HM := Lib.hid hxm
          have k0 := hxc _ HBp.out 0 _ rfl
          have k1 := hxc _ HBp.out 1 _ rfl
          have k2 := hxc _ HBp.out 2 _ rfl
          rw [Nat.add_zero] at k0
          clear hxm hxc
          have HY := Lib.hid (Blk.new wr 70 #[.string x.1, .int .i64 x.2.1, .string x.2.2])
          have HBq := Lib.hid (HBp.out.alloc HBp.out.size (.cells #[.string x.1, .int .i64 x.2.1, .string x.2.2] 70))
          have HXq := Lib.hid (HXp.out.alloc (.cells #[.string x.1, .int .i64 x.2.1, .string x.2.2] 70))
          go_wp2_with fail
          refine (name4_any _ (HSh.out.2 _ HM.out).1.nam _).mono ?_
          rintro e w1 ⟨rfl, hb⟩
          have HX1 := Lib.hid (HXq.out.below hb HXq.out.lt)
          have HB1 := Lib.hid (HBq.out.trans (hb.mono HBq.out.size))
          have HY1 := Lib.hid (HY.out.below hb HY.out.lt)
          clear hb x0 x1 x2 k0 k1 k2
          have y1 := HY1.out.cell 1
          have y2 := HY1.out.cell 2
          go_wp2_with fail
          refine (plain_any _ (by have := HSh.out.2 _ HM.out; omega) _).mono ?_
          rintro e w0 ⟨rfl, rfl⟩
          go_wp2_with fail
          refine (name4_any _ (HSh.out.2 _ HM.out).2.2.nam _).mono ?_
          rintro e w2 ⟨rfl, hb⟩
          have HX2 := Lib.hid (HX1.out.below hb HX1.out.lt)
          have HB2 := Lib.hid (HB1.out.trans (hb.mono HB1.out.size))
          clear hb y1 y2
          go_wp2_with fail
          go_roundw
          case rel => exact ⟨j + 1, by omega, by go_num, Lib.hid ⟨HB2.out, HX2.out⟩⟩
          case measure => simp [intOf]; omega
        · have hlt' : ¬ (j : Int) < (p.shared.length : Nat) := by omega
          clear hlt
          go_wp2_with fail
          go_loopw [6] (fun i wr => ∃ j : Nat, j ≤ p.tasks.length ∧ i = .int .i64 j ∧ Hid (Below w.heap.size w wr ∧ Blk wr w.heap.size 32 #[.slice A0 p.resources.length c0, .slice A1 p.shared.length c1, .slice A2 p.tasks.length c2])) (fun i _ => p.tasks.length - (intOf i).toNat)
          case atStart => exact ⟨0, Nat.zero_le _, rfl, Lib.hid ⟨HBp.out, HXp.out⟩⟩
          case round =>
            clear HBp HXp
            obtain ⟨j, hj, rfl, hR⟩ := hrel
            have HBp := Lib.hid hR.out.1
            have HXp := Lib.hid hR.out.2
            have x0 := HXp.out.cell 0
            have x1 := HXp.out.cell 1
            have x2 := HXp.out.cell 2
            clear hR
            by_cases hlt : j < p.tasks.length
            · have hlt' : (j : Int) < (p.tasks.length : Nat) := by omega
              obtain ⟨b, f, rfl, hxc⟩ := lies_cell HTk.out.1 (by omega)
              obtain ⟨ys, hrow, hys⟩ := Tsks.at HTk.out.2.1 j hlt
              have HOk := Lib.hid (HTk.out.2.2 _ (List.getElem_mem hlt))
              have HRow := Lib.hid (hrow.keep (w' := wr) (S' := S) HBp.out.size fun q hq hl => ⟨hq, fun f => HBp.out.cell (p := ⟨q, f, none⟩) hl⟩)
              obtain ⟨A5, c5, A6, c6, A7, c7, A8, c8, A9, c9, A10, c10, rfl, _⟩ := hrow
              have k0 := hxc _ HBp.out _ _ (hys 0 _ rfl)
              have k1 := hxc _ HBp.out _ _ (hys 1 _ rfl)
              have k2 := hxc _ HBp.out _ _ (hys 2 _ rfl)
              have k3 := hxc _ HBp.out _ _ (hys 3 _ rfl)
              have k4 := hxc _ HBp.out _ _ (hys 4 _ rfl)
              have k5 := hxc _ HBp.out _ _ (hys 5 _ rfl)
              have k6 := hxc _ HBp.out _ _ (hys 6 _ rfl)
              have k7 := hxc _ HBp.out _ _ (hys 7 _ rfl)
              have k8 := hxc _ HBp.out _ _ (hys 8 _ rfl)
              have k9 := hxc _ HBp.out _ _ (hys 9 _ rfl)
              have k10 := hxc _ HBp.out _ _ (hys 10 _ rfl)
              rw [Nat.add_zero] at k0
              rw [← Nat.add_assoc] at k1 k2 k3 k4 k5 k6 k7 k8 k9 k10
              generalize p.tasks[j] = t at *
              have HRt := Lib.hid (rtask_any t HOk.out _ S wr HRow.out)
              clear hxc hys HRow HOk
              go_wp2_with fail
              refine HRt.out.mono ?_
              rintro e w1 ⟨rfl, hb⟩
              have HX1 := Lib.hid (HXp.out.below hb HXp.out.lt)
              have HB1 := Lib.hid (HBp.out.trans (hb.mono HBp.out.size))
              clear hb x0 x1 x2 k0 k1 k2 k3 k4 k5 k6 k7 k8 k9 k10
              go_wp2_with fail
              go_roundw
              case rel => exact ⟨j + 1, by omega, by go_num, Lib.hid ⟨HB1.out, HX1.out⟩⟩
              case measure => simp [intOf]; omega
            · have hlt' : ¬ (j : Int) < (p.tasks.length : Nat) := by omega
              clear hlt
              go_wp2_with fail
              go_ret
              exact ⟨rfl, HBp.out⟩
end Go.Proofs.YtbppfhlpielpcaaDoor
