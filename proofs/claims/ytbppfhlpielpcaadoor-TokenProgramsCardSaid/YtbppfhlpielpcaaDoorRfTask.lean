/- The specification's tasks: what the generator makes is printable. -/
import Derived.Test.YtbppfhlpielpcaaDoorRfStmts
import Derived.Test.YtbppfhlpielpcaaDoorGnTsm
namespace Go.Proofs.YtbppfhlpielpcaaDoor
open Go.RowKit Tk
set_option linter.unusedVariables false
/-- Element j of a row, its cells in any world behind. -/
theorem lies_at {α : Type} (enc : α → List Value) (q : Nat) (hf : ∀ x, (enc x).length = q) {w : World} {S : Nat → Prop} {A : Option Addr} {c : Nat} {l : List α} (h : Lies w S A l.length c q (l.flatMap enc)) {j : Nat} (hj : j < l.length) :
    ∃ b f x, A = some ⟨b, f, none⟩ ∧ x ∈ l ∧ ∀ W, Below w.heap.size w W → ∀ k u, (enc x)[k]? = some u → W.cell? ⟨b, f + j * q + k, none⟩ = some u := by
  obtain ⟨_, _, ⟨h0, _⟩ | ⟨b, f, e, _, hl, hc⟩⟩ := h
  · omega
  · refine ⟨b, f, l[j], e, List.getElem_mem hj, fun W hb k u hu => ?_⟩
    rw [show f + j * q + k = f + (j * q + k) by omega]
    exact (hb.cell (p := ⟨b, f + (j * q + k), none⟩) hl).trans (hc _ u (flat_at enc q hf l j k hj u hu))
theorem strs_flat (l : List ByteArray) : l.map Value.string = l.flatMap fun x => [Value.string x] := by
  induction l with
  | nil => rfl
  | cons x l ih => rw [List.map_cons, ih]; rfl
theorem Blk.eleven' {w : World} {g : Nat} {t : TypeId} {a0 a1 a2 a3 a4 a5 a6 a7 a8 a9 a10 : Value} (h : Blk w g t #[a0, a1, a2, a3, a4, a5, a6, a7, a8, a9, a10]) :
    w.cell? ⟨g, 0, none⟩ = some a0 ∧ w.cell? ⟨g, 1, none⟩ = some a1 ∧ w.cell? ⟨g, 2, none⟩ = some a2 ∧ w.cell? ⟨g, 3, none⟩ = some a3 ∧ w.cell? ⟨g, 4, none⟩ = some a4 ∧ w.cell? ⟨g, 5, none⟩ = some a5 ∧ w.cell? ⟨g, 6, none⟩ = some a6 ∧ w.cell? ⟨g, 7, none⟩ = some a7 ∧ w.cell? ⟨g, 8, none⟩ = some a8 ∧ w.cell? ⟨g, 9, none⟩ = some a9 ∧ w.cell? ⟨g, 10, none⟩ = some a10 := h.eleven.1
set_option maxRecDepth 100000 in
set_option maxHeartbeats 6000000 in
theorem rtask_any (t : Tsk) (ht : t.Ok) (xs : List Value) (S : Nat → Prop) (w : World) (hr : t.Row w S xs) :
    Calls Tryd.prog 41 #[.agg xs.toArray] w fun e w' => e = .returned (.bool true) ∧ Below w.heap.size w w' := by
  obtain ⟨A5, c5, A6, c6, A7, c7, A8, c8, A9, c9, A10, c10, rfl, h5, h6, h7, h8, h9, h10, h11⟩ := hr
  obtain ⟨hnm, hnum, hin, hvs, har, hmd, hcl, hbd⟩ := ht
  obtain ⟨ni, hni, hnm⟩ := hnm
  have HNm := Lib.hid (show Nam t.name by rw [hnm]; exact task_nam ni hni)
  have HNu := Lib.hid hnum
  have HIn := Lib.hid (And.intro h5 hin.2)
  have HVs := Lib.hid (show Lies w S A6 t.vars.length c6 1 (t.vars.flatMap fun x => [Value.string x]) by rw [← strs_flat]; exact h6)
  have HVn := Lib.hid (show ∀ x ∈ t.vars, Nam x by
    rw [hvs]
    intro x hx
    refine Nm.nam ?_
    simp only [List.mem_cons, List.not_mem_nil, or_false] at hx
    rcases hx with rfl | rfl | rfl <;> (unfold Nm nameList; simp))
  have HAr := Lib.hid (And.intro h7 har.2)
  have HMd := Lib.hid (And.intro h8 hmd.2)
  have HCl := Lib.hid (And.intro h9 hcl.2)
  have HBd := Lib.hid (fun (W : World) (hb : Below w.heap.size w W) => stmts_any t.body.height t.body A10 c10 1 S W rfl hbd.1 (by have := hbd.2.2; unfold maxLen; omega) (h11.keep hb.size fun q hq hl => ⟨hq, fun f => hb.cell (p := ⟨q, f, none⟩) hl⟩) (by omega) (by have := hbd.2.1; omega))
  have n5 : t.inputs.length ≤ 2 := hin.1
  have n6 : t.vars.length ≤ 3 := by rw [hvs]; exact Nat.le_refl _
  have n7 : t.arrays.length ≤ 1 := har.1
  have n8 : t.modes.length ≤ 1 := hmd.1
  have n9 : t.claims.length ≤ 1 := hcl.1
  obtain ⟨p1, p2, p3, p4⟩ := hnum
  have HX := Lib.hid (Blk.new w 66 #[.string t.name, .int .i64 t.period, .int .i64 t.deadline, .int .i64 t.priority, .int .i64 t.jitter, .slice A5 t.inputs.length c5, .slice A6 t.vars.length c6, .slice A7 t.arrays.length c7, .slice A8 t.modes.length c8, .slice A9 t.claims.length c9, .slice A10 t.body.len c10])
  have HB := Lib.hid ((Below.refl w.heap.size w).alloc (Nat.le_refl _) (.cells #[.string t.name, .int .i64 t.period, .int .i64 t.deadline, .int .i64 t.priority, .int .i64 t.jitter, .slice A5 t.inputs.length c5, .slice A6 t.vars.length c6, .slice A7 t.arrays.length c7, .slice A8 t.modes.length c8, .slice A9 t.claims.length c9, .slice A10 t.body.len c10] 66))
  clear hnm hin hvs har hmd hcl hbd h5 h6 h7 h8 h9 h10 h11
  go_enter Tryd.func41, Tryd.ntmps41
  go_wp2_with fail
  refine (name4_any t.name HNm.out _).mono ?_
  rintro e w1 ⟨rfl, hb⟩
  have HX1 := Lib.hid (HX.out.below hb HX.out.lt)
  have HB1 := Lib.hid (HB.out.trans (hb.mono HB.out.size))
  obtain ⟨x0, x1, x2, x3, x4, x5, x6, x7, x8, x9, x10⟩ := HX1.out.eleven'
  clear hb HX HB
  go_wp2_with fail
  refine (plain_any t.period (by have := HNu.out; omega) _).mono ?_
  rintro e w0 ⟨rfl, rfl⟩
  go_wp2_with fail
  refine (plain_any t.deadline (by have := HNu.out; omega) _).mono ?_
  rintro e w0 ⟨rfl, rfl⟩
  go_wp2_with fail
  refine (plain_any t.priority (by have := HNu.out; omega) _).mono ?_
  rintro e w0 ⟨rfl, rfl⟩
  go_wp2_with fail
  refine (plain_any t.jitter (by have := HNu.out; omega) _).mono ?_
  rintro e w0 ⟨rfl, rfl⟩
  go_wp2_with fail
  refine (HBd.out _ HB1.out).mono ?_
  rintro e w2 ⟨rfl, hb⟩
  have HXp := Lib.hid (HX1.out.below hb HX1.out.lt)
  have HBp := Lib.hid (HB1.out.trans (hb.mono HB1.out.size))
  clear hb HX1 HB1 x0 x1 x2 x3 x4 x5 x6 x7 x8 x9 x10 p1 p2 p3 p4
  go_wp2_with fail
  go_loopw [3] (fun i wr => ∃ j : Nat, j ≤ t.inputs.length ∧ i = .int .i64 j ∧ Hid (Below w.heap.size w wr ∧ Blk wr w.heap.size 66 #[.string t.name, .int .i64 t.period, .int .i64 t.deadline, .int .i64 t.priority, .int .i64 t.jitter, .slice A5 t.inputs.length c5, .slice A6 t.vars.length c6, .slice A7 t.arrays.length c7, .slice A8 t.modes.length c8, .slice A9 t.claims.length c9, .slice A10 t.body.len c10])) (fun i _ => t.inputs.length - (intOf i).toNat)
  case atStart => exact ⟨0, Nat.zero_le _, rfl, Lib.hid ⟨HBp.out, HXp.out⟩⟩
  case round =>
    clear HBp HXp
    obtain ⟨j, hj, rfl, hR⟩ := hrel
    have HBp := Lib.hid hR.out.1
    have HXp := Lib.hid hR.out.2
    obtain ⟨x0, x1, x2, x3, x4, x5, x6, x7, x8, x9, x10⟩ := HXp.out.eleven'
    clear hR
    by_cases hlt : j < t.inputs.length
    · have hlt' : (j : Int) < (t.inputs.length : Nat) := by omega
      obtain ⟨b, f, x, rfl, hxm, hxc⟩ := lies_at inCells 3 (fun _ => rfl) HIn.out.1 hlt
      have HC := Lib.hid hxc
      have HM := Lib.hid hxm
      have k0 := hxc _ HBp.out 0 _ rfl
      have k1 := hxc _ HBp.out 1 _ rfl
      have k2 := hxc _ HBp.out 2 _ rfl
      rw [Nat.add_zero] at k0
      clear hxm hxc
      go_wp2_with fail
      refine (name4_any _ ((HIn.out.2 _ HM.out).1.nam) _).mono ?_
      rintro e w1 ⟨rfl, hb⟩
      have HX1 := Lib.hid (HXp.out.below hb HXp.out.lt)
      have HB1 := Lib.hid (HBp.out.trans (hb.mono HBp.out.size))
      clear hb x0 x1 x2 x3 x4 x5 x6 x7 x8 x9 x10 k0 k1 k2
      obtain ⟨x0, x1, x2, x3, x4, x5, x6, x7, x8, x9, x10⟩ := HX1.out.eleven'
      have k0 := HC.out _ HB1.out 0 _ rfl
      have k1 := HC.out _ HB1.out 1 _ rfl
      have k2 := HC.out _ HB1.out 2 _ rfl
      rw [Nat.add_zero] at k0
      go_wp2_with fail
      refine (small_any _ (by have := HIn.out.2 _ HM.out; unfold inOk at this; omega) _).mono ?_
      rintro e w0 ⟨rfl, rfl⟩
      go_wp2_with fail
      refine (small_any _ (by have := HIn.out.2 _ HM.out; unfold inOk at this; omega) _).mono ?_
      rintro e w0 ⟨rfl, rfl⟩
      go_wp2_with fail
      go_roundw
      case rel => exact ⟨j + 1, by omega, by go_num, Lib.hid ⟨HB1.out, HX1.out⟩⟩
      case measure => simp [intOf]; omega
    · have hlt' : ¬ (j : Int) < (t.inputs.length : Nat) := by omega
      clear hlt
      go_wp2_with fail
      go_loopw [4] (fun i wr => ∃ j : Nat, j ≤ t.vars.length ∧ i = .int .i64 j ∧ Hid (Below w.heap.size w wr ∧ Blk wr w.heap.size 66 #[.string t.name, .int .i64 t.period, .int .i64 t.deadline, .int .i64 t.priority, .int .i64 t.jitter, .slice A5 t.inputs.length c5, .slice A6 t.vars.length c6, .slice A7 t.arrays.length c7, .slice A8 t.modes.length c8, .slice A9 t.claims.length c9, .slice A10 t.body.len c10])) (fun i _ => t.vars.length - (intOf i).toNat)
      case atStart => exact ⟨0, Nat.zero_le _, rfl, Lib.hid ⟨HBp.out, HXp.out⟩⟩
      case round =>
        clear HBp HXp
        obtain ⟨j, hj, rfl, hR⟩ := hrel
        have HBp := Lib.hid hR.out.1
        have HXp := Lib.hid hR.out.2
        obtain ⟨x0, x1, x2, x3, x4, x5, x6, x7, x8, x9, x10⟩ := HXp.out.eleven'
        clear hR
        by_cases hlt : j < t.vars.length
        · have hlt' : (j : Int) < (t.vars.length : Nat) := by omega
          obtain ⟨b, f, x, rfl, hxm, hxc⟩ := lies_at (fun x => [Value.string x]) 1 (fun _ => rfl) HVs.out hlt
          have HC := Lib.hid hxc
          have HM := Lib.hid hxm
          have k0 := hxc _ HBp.out 0 _ rfl
          rw [Nat.add_zero, Nat.mul_one] at k0
          clear hxm hxc
          go_wp2_with fail
          refine (name4_any _ (HVn.out _ HM.out) _).mono ?_
          rintro e w1 ⟨rfl, hb⟩
          have HX1 := Lib.hid (HXp.out.below hb HXp.out.lt)
          have HB1 := Lib.hid (HBp.out.trans (hb.mono HBp.out.size))
          clear hb x0 x1 x2 x3 x4 x5 x6 x7 x8 x9 x10 k0
          obtain ⟨x0, x1, x2, x3, x4, x5, x6, x7, x8, x9, x10⟩ := HX1.out.eleven'
          have k0 := HC.out _ HB1.out 0 _ rfl
          rw [Nat.add_zero, Nat.mul_one] at k0
          go_wp2_with fail
          go_roundw
          case rel => exact ⟨j + 1, by omega, by go_num, Lib.hid ⟨HB1.out, HX1.out⟩⟩
          case measure => simp [intOf]; omega
        · have hlt' : ¬ (j : Int) < (t.vars.length : Nat) := by omega
          clear hlt
          go_wp2_with fail
          go_loopw [5] (fun i wr => ∃ j : Nat, j ≤ t.arrays.length ∧ i = .int .i64 j ∧ Hid (Below w.heap.size w wr ∧ Blk wr w.heap.size 66 #[.string t.name, .int .i64 t.period, .int .i64 t.deadline, .int .i64 t.priority, .int .i64 t.jitter, .slice A5 t.inputs.length c5, .slice A6 t.vars.length c6, .slice A7 t.arrays.length c7, .slice A8 t.modes.length c8, .slice A9 t.claims.length c9, .slice A10 t.body.len c10])) (fun i _ => t.arrays.length - (intOf i).toNat)
          case atStart => exact ⟨0, Nat.zero_le _, rfl, Lib.hid ⟨HBp.out, HXp.out⟩⟩
          case round =>
            clear HBp HXp
            obtain ⟨j, hj, rfl, hR⟩ := hrel
            have HBp := Lib.hid hR.out.1
            have HXp := Lib.hid hR.out.2
            obtain ⟨x0, x1, x2, x3, x4, x5, x6, x7, x8, x9, x10⟩ := HXp.out.eleven'
            clear hR
            by_cases hlt : j < t.arrays.length
            · have hlt' : (j : Int) < (t.arrays.length : Nat) := by omega
              obtain ⟨b, f, x, rfl, hxm, hxc⟩ := lies_at arCells 2 (fun _ => rfl) HAr.out.1 hlt
              have HC := Lib.hid hxc
              have HM := Lib.hid hxm
              have k0 := hxc _ HBp.out 0 _ rfl
              have k1 := hxc _ HBp.out 1 _ rfl
              rw [Nat.add_zero] at k0
              clear hxm hxc
              go_wp2_with fail
              refine (name4_any _ ((HAr.out.2 _ HM.out).1.nam) _).mono ?_
              rintro e w1 ⟨rfl, hb⟩
              have HX1 := Lib.hid (HXp.out.below hb HXp.out.lt)
              have HB1 := Lib.hid (HBp.out.trans (hb.mono HBp.out.size))
              clear hb x0 x1 x2 x3 x4 x5 x6 x7 x8 x9 x10 k0 k1
              obtain ⟨x0, x1, x2, x3, x4, x5, x6, x7, x8, x9, x10⟩ := HX1.out.eleven'
              have k0 := HC.out _ HB1.out 0 _ rfl
              have k1 := HC.out _ HB1.out 1 _ rfl
              rw [Nat.add_zero] at k0
              go_wp2_with fail
              refine (plain_any _ (by have := HAr.out.2 _ HM.out; omega) _).mono ?_
              rintro e w0 ⟨rfl, rfl⟩
              go_wp2_with fail
              go_roundw
              case rel => exact ⟨j + 1, by omega, by go_num, Lib.hid ⟨HB1.out, HX1.out⟩⟩
              case measure => simp [intOf]; omega
            · have hlt' : ¬ (j : Int) < (t.arrays.length : Nat) := by omega
              clear hlt
              go_wp2_with fail
              go_loopw [6] (fun i wr => ∃ j : Nat, j ≤ t.modes.length ∧ i = .int .i64 j ∧ Hid (Below w.heap.size w wr ∧ Blk wr w.heap.size 66 #[.string t.name, .int .i64 t.period, .int .i64 t.deadline, .int .i64 t.priority, .int .i64 t.jitter, .slice A5 t.inputs.length c5, .slice A6 t.vars.length c6, .slice A7 t.arrays.length c7, .slice A8 t.modes.length c8, .slice A9 t.claims.length c9, .slice A10 t.body.len c10])) (fun i _ => t.modes.length - (intOf i).toNat)
              case atStart => exact ⟨0, Nat.zero_le _, rfl, Lib.hid ⟨HBp.out, HXp.out⟩⟩
              case round =>
                clear HBp HXp
                obtain ⟨j, hj, rfl, hR⟩ := hrel
                have HBp := Lib.hid hR.out.1
                have HXp := Lib.hid hR.out.2
                obtain ⟨x0, x1, x2, x3, x4, x5, x6, x7, x8, x9, x10⟩ := HXp.out.eleven'
                clear hR
                by_cases hlt : j < t.modes.length
                · have hlt' : (j : Int) < (t.modes.length : Nat) := by omega
                  obtain ⟨b, f, x, rfl, hxm, hxc⟩ := lies_at mdCells 4 (fun _ => rfl) HMd.out.1 hlt
                  have HC := Lib.hid hxc
                  have HM := Lib.hid hxm
                  have k0 := hxc _ HBp.out 0 _ rfl
                  have k1 := hxc _ HBp.out 1 _ rfl
                  have k2 := hxc _ HBp.out 2 _ rfl
                  have k3 := hxc _ HBp.out 3 _ rfl
                  rw [Nat.add_zero] at k0
                  clear hxm hxc
                  have HY := Lib.hid (Blk.new wr 74 #[.string x.1, .string x.2.1, .int .i64 x.2.2.1, .int .i64 x.2.2.2])
                  have HBq := Lib.hid (HBp.out.alloc HBp.out.size (.cells #[.string x.1, .string x.2.1, .int .i64 x.2.2.1, .int .i64 x.2.2.2] 74))
                  have HXq := Lib.hid (HXp.out.alloc (.cells #[.string x.1, .string x.2.1, .int .i64 x.2.2.1, .int .i64 x.2.2.2] 74))
                  go_wp2_with fail
                  refine (name4_any _ ((HMd.out.2 _ HM.out).1 ▸ few_nam) _).mono ?_
                  rintro e w1 ⟨rfl, hb⟩
                  have HX1 := Lib.hid (HXq.out.below hb HXq.out.lt)
                  have HB1 := Lib.hid (HBq.out.trans (hb.mono HBq.out.size))
                  have HY1 := Lib.hid (HY.out.below hb HY.out.lt)
                  clear hb x0 x1 x2 x3 x4 x5 x6 x7 x8 x9 x10 k0 k1 k2 k3
                  obtain ⟨x0, x1, x2, x3, x4, x5, x6, x7, x8, x9, x10⟩ := HX1.out.eleven'
                  have k0 := HY1.out.cell 0
                  have k1 := HY1.out.cell 1
                  have k2 := HY1.out.cell 2
                  have k3 := HY1.out.cell 3
                  go_wp2_with fail
                  refine (name4_any _ ((HMd.out.2 _ HM.out).2.1.nam) _).mono ?_
                  rintro e w1 ⟨rfl, hb⟩
                  have HX2 := Lib.hid (HX1.out.below hb HX1.out.lt)
                  have HB2 := Lib.hid (HB1.out.trans (hb.mono HB1.out.size))
                  have HY2 := Lib.hid (HY1.out.below hb HY1.out.lt)
                  clear hb x0 x1 x2 x3 x4 x5 x6 x7 x8 x9 x10 k0 k1 k2 k3
                  obtain ⟨x0, x1, x2, x3, x4, x5, x6, x7, x8, x9, x10⟩ := HX2.out.eleven'
                  have k0 := HY2.out.cell 0
                  have k1 := HY2.out.cell 1
                  have k2 := HY2.out.cell 2
                  have k3 := HY2.out.cell 3
                  go_wp2_with fail
                  refine (small_any _ (by have := HMd.out.2 _ HM.out; omega) _).mono ?_
                  rintro e w0 ⟨rfl, rfl⟩
                  go_wp2_with fail
                  refine (small_any _ (by have := HMd.out.2 _ HM.out; omega) _).mono ?_
                  rintro e w0 ⟨rfl, rfl⟩
                  go_wp2_with fail
                  go_roundw
                  case rel => exact ⟨j + 1, by omega, by go_num, Lib.hid ⟨HB2.out, HX2.out⟩⟩
                  case measure => simp [intOf]; omega
                · have hlt' : ¬ (j : Int) < (t.modes.length : Nat) := by omega
                  clear hlt
                  go_wp2_with fail
                  go_loopw [8] (fun i wr => ∃ j : Nat, j ≤ t.claims.length ∧ i = .int .i64 j ∧ Hid (Below w.heap.size w wr ∧ Blk wr w.heap.size 66 #[.string t.name, .int .i64 t.period, .int .i64 t.deadline, .int .i64 t.priority, .int .i64 t.jitter, .slice A5 t.inputs.length c5, .slice A6 t.vars.length c6, .slice A7 t.arrays.length c7, .slice A8 t.modes.length c8, .slice A9 t.claims.length c9, .slice A10 t.body.len c10])) (fun i _ => t.claims.length - (intOf i).toNat)
                  case atStart => exact ⟨0, Nat.zero_le _, rfl, Lib.hid ⟨HBp.out, HXp.out⟩⟩
                  case round =>
                    clear HBp HXp
                    obtain ⟨j, hj, rfl, hR⟩ := hrel
                    have HBp := Lib.hid hR.out.1
                    have HXp := Lib.hid hR.out.2
                    obtain ⟨x0, x1, x2, x3, x4, x5, x6, x7, x8, x9, x10⟩ := HXp.out.eleven'
                    clear hR
                    by_cases hlt : j < t.claims.length
                    · have hlt' : (j : Int) < (t.claims.length : Nat) := by omega
                      obtain ⟨b, f, x, rfl, hxm, hxc⟩ := lies_at clCells 2 (fun _ => rfl) HCl.out.1 hlt
                      have HC := Lib.hid hxc
                      have HM := Lib.hid hxm
                      have k0 := hxc _ HBp.out 0 _ rfl
                      have k1 := hxc _ HBp.out 1 _ rfl
                      rw [Nat.add_zero] at k0
                      clear hxm hxc
                      go_wp2_with fail
                      refine (plain_any _ (by have := HCl.out.2 _ HM.out; omega) _).mono ?_
                      rintro e w0 ⟨rfl, rfl⟩
                      go_wp2_with fail
                      refine (plain_any _ (by have := HCl.out.2 _ HM.out; omega) _).mono ?_
                      rintro e w0 ⟨rfl, rfl⟩
                      go_wp2_with fail
                      go_roundw
                      case rel => exact ⟨j + 1, by omega, by go_num, Lib.hid ⟨HBp.out, HXp.out⟩⟩
                      case measure => simp [intOf]; omega
                    · have hlt' : ¬ (j : Int) < (t.claims.length : Nat) := by omega
                      clear hlt
                      go_wp2_with fail
                      go_ret
                      exact ⟨rfl, HBp.out⟩
end Go.Proofs.YtbppfhlpielpcaaDoor
