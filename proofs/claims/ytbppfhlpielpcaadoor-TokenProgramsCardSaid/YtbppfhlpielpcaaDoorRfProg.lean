/- The specification's printing of programs. -/
import Derived.Test.YtbppfhlpielpcaaDoorRfBody
import Derived.Test.YtbppfhlpielpcaaDoorRfPrintable
import Derived.Test.YtbppfhlpielpcaaDoorRfDeep
namespace Go.Proofs.YtbppfhlpielpcaaDoor
open Go.RowKit Tk
set_option linter.unusedVariables false
set_option linter.unusedSimpArgs false
theorem catn (a b : ByteArray) (m n k : Nat) (ha : a.size ≤ m) (hb : b.size ≤ n) (hk : m + n ≤ k) (h : k ≤ 100000) : ∃ r : ByteArray, r.size ≤ k ∧ ∀ W : World, (Op.stringOp .add a b).run Tryd.prog W = .ok (.string r) W := by
  obtain ⟨r, h1, h2⟩ := cat a b (by omega)
  exact ⟨r, by omega, h2⟩
theorem rdeepT_any (a : Sts) (A : Option Addr) (c : Nat) (S : Nat → Prop) (w : World) (hg : a.Good) (hh : a.height ≤ 4) (hl : a.len ≤ 10) (ha : a.At w S A) :
    Calls Tryd.prog 27 #[.slice A a.len c] w fun e w' => e = .returned (.bool false) ∧ Below w.heap.size w w' := by
  have HC := Lib.hid (rdeep_any a.height a A c 1 S w rfl hg (by unfold maxLen; omega) ha (by omega) (by omega))
  clear hg hh hl ha
  go_enter Tryd.func27, Tryd.ntmps27
  go_wp2_with fail
  refine HC.out.mono ?_
  rintro e w1 ⟨rfl, hb⟩
  go_wp2
  go_ret
  exact ⟨rfl, hb⟩
theorem conv_out {base n : Nat} {W : World} {v : Value} (h : OutB base v n W) : ∃ (A : Option Addr) (c : Nat), v = .slice A n c ∧ ∃ s : ByteArray, s.size = n ∧ (convert 36 9 v).run Tryd.prog W = .ok (.string s) W := by
  obtain ⟨xs, ho, hu⟩ := h
  obtain ⟨A, c, rfl, hl, _, ⟨h0, rfl, rfl⟩ | ⟨b, f, rfl, _, _, hc⟩⟩ := Lies.own (S := fun _ => True) ho (fun _ _ _ => trivial) ho.1
  · subst h0
    exact ⟨none, 0, rfl, ByteArray.empty, rfl, run_convert_bytes_nil W 36 5 Tryd.underlying36 Tryd.underlying5 0 0 9 Tryd.underlying9⟩
  · have hz : ∀ i, i < n → W.cell? ⟨b, f + i, none⟩ = some (.int .u8 ((xs.map intOf).getD i 0)) := fun i hi => by
      have hx : i < xs.length := by omega
      obtain ⟨k, hk, _⟩ := hu _ (List.getElem_mem hx)
      rw [hc i _ (List.getElem?_eq_getElem hx), hk]
      simp [List.getD, List.getElem?_map, List.getElem?_eq_getElem hx, hk, intOf]
    exact ⟨_, c, rfl, _, (by rw [strOfNums_size]; simpa using hl), run_convert_bytes_arg W 36 5 Tryd.underlying36 Tryd.underlying5 b f n c (xs.map intOf) (by simpa using hl) hz 9 Tryd.underlying9⟩
/-- What the printing keeps: the program's box. -/
structure PBx (base : Nat) (pc : Array Value) (w W : World) : Prop where
  kp : Kp base w W
  bx : Blk W base 32 pc
theorem PBx.step {base : Nat} {pc : Array Value} {w W W' : World} (h : PBx base pc w W) (k : Kp base W W') : PBx base pc w W' := ⟨h.kp.trans k, k.blk h.bx (by decide)⟩
theorem PBx.bel {base : Nat} {pc : Array Value} {w W : World} (h : PBx base pc w W) (hs : base ≤ w.heap.size) : Below base w W := h.kp.toBelow hs
theorem kp_alloc (base : Nat) (W : World) (o : Obj) : Kp base W (W.alloc o) := (Kp.refl base W).alloc o
set_option maxRecDepth 100000 in
set_option maxHeartbeats 20000000 in
theorem rprog_any (p : Pg) (hp0 : p.Ok) (v : Value) (S0 : Nat → Prop) (w : World) (hr0 : p.At w S0 v) :
    Calls Tryd.prog 15 #[v] w fun e w' => ∃ (s : ByteArray) (r : Int), e = .returned (.tuple #[.string s, .int .i64 r]) ∧ s.size ≤ 8192 ∧ Below w.heap.size w w' := by
  have hr : p.At w (fun b => b < w.heap.size) v := hr0.keep (Nat.le_refl _) fun b _ hl => ⟨hl, fun _ => rfl⟩
  obtain ⟨A0, c0, A1, c1, A2, c2, xs, rfl, h0, h1, h2, h3⟩ := id hr
  obtain ⟨hre, hsh, htk⟩ := id hp0
  have HRe := Lib.hid (show Lies w (fun b => b < w.heap.size) A0 p.resources.length c0 1 (p.resources.flatMap fun x => [Value.string x]) by rw [← strs_flat]; exact h0)
  have HRn := Lib.hid hre.2
  have HSh := Lib.hid (And.intro h1 hsh.2)
  have HTk := Lib.hid (And.intro h2 (And.intro h3 htk.2))
  have n0 : p.resources.length ≤ 2 := hre.1
  have n1 : p.shared.length ≤ 1 := hsh.1
  have n2 : p.tasks.length ≤ 6 := htk.1
  have HPP := Lib.hid (And.intro hp0 hr)
  have HXp := Lib.hid (Blk.new w 32 #[.slice A0 p.resources.length c0, .slice A1 p.shared.length c1, .slice A2 p.tasks.length c2])
  have HBp := Lib.hid ((Below.refl w.heap.size w).alloc (Nat.le_refl _) (.cells #[.slice A0 p.resources.length c0, .slice A1 p.shared.length c1, .slice A2 p.tasks.length c2] 32))
  clear hre hsh htk h0 h1 h2 h3 hp0 hr hr0
  have HC := Lib.hid (printable_any p HPP.out.1 _ (fun b => b < w.heap.size) _ (HPP.out.2.keep HBp.out.size (fun b hb _ => ⟨hb, fun f => World.cell?_of_block (HBp.out.block b hb)⟩)))
  clear HPP
  go_enter Tryd.func15, Tryd.ntmps15
  go_wp2_with fail
  refine HC.out.mono ?_
  rintro e w1 ⟨rfl, hb⟩
  have HX1 := Lib.hid (HXp.out.below hb HXp.out.lt)
  have HB1 := Lib.hid (HBp.out.trans (hb.mono HBp.out.size))
  clear hb HXp HBp HC
  go_wp2_with fail
  go_loopw [4] (fun i wr => ∃ j : Nat, j ≤ p.tasks.length ∧ i = .int .i64 j ∧ Hid (Below w.heap.size w wr ∧ Blk wr w.heap.size 32 #[.slice A0 p.resources.length c0, .slice A1 p.shared.length c1, .slice A2 p.tasks.length c2])) (fun i _ => p.tasks.length - (intOf i).toNat)
  case atStart => exact ⟨0, Nat.zero_le _, rfl, Lib.hid ⟨HB1.out, HX1.out⟩⟩
  case round =>
    as_aux_lemma =>
      clear HB1 HX1
      obtain ⟨j, hj, rfl, hR⟩ := hrel
      have HBp := Lib.hid hR.out.1
      have HXp := Lib.hid hR.out.2
      have x0 := HXp.out.cell 0
      have x1 := HXp.out.cell 1
      have x2 := HXp.out.cell 2
      clear hR
      by_cases hlt : j < p.tasks.length
      · as_aux_lemma =>
          have hlt' : (j : Int) < (p.tasks.length : Nat) := by omega
          obtain ⟨b, f, rfl, hxc⟩ := lies_cell HTk.out.1 (by omega)
          obtain ⟨ys, hrow, hys⟩ := Tsks.at HTk.out.2.1 j hlt
          have HOk := Lib.hid (HTk.out.2.2 _ (List.getElem_mem hlt))
          have HRow := Lib.hid (hrow.keep (w' := wr) (S' := fun b => b < w.heap.size) HBp.out.size fun q hq hl => ⟨hq, fun f => HBp.out.cell (p := ⟨q, f, none⟩) hl⟩)
          obtain ⟨A5, c5, A6, c6, A7, c7, A8, c8, A9, c9, A10, c10, rfl, _⟩ := id hrow
          have k10 := hxc _ HBp.out _ _ (hys 10 _ rfl)
          rw [← Nat.add_assoc] at k10
          generalize p.tasks[j] = t at *
          have HDp := Lib.hid (show Calls Tryd.prog 27 #[.slice A10 t.body.len c10] wr fun e w' => e = .returned (.bool false) ∧ Below wr.heap.size wr w' by
            obtain ⟨_, _, _, _, _, _, _, _, _, _, B10, d10, e1, q5, q6, q7, q8, q9, q10, q11⟩ := HRow.out
            have e2 : Value.slice A10 t.body.len c10 = .slice B10 t.body.len d10 := by
              have := congrArg (fun l : List Value => l[10]?) e1
              simpa using this
            injection e2 with e2 _ e3
            rw [e2, e3]
            exact rdeepT_any t.body B10 d10 _ wr HOk.out.body.1 HOk.out.body.2.1 HOk.out.body.2.2 q11)
          clear hxc hys HRow HOk hrow
          go_wp2_with fail
          refine HDp.out.mono ?_
          rintro e w1 ⟨rfl, hb⟩
          have HX1 := Lib.hid (HXp.out.below hb HXp.out.lt)
          have HB1 := Lib.hid (HBp.out.trans (hb.mono HBp.out.size))
          clear hb x0 x1 x2 k10
          go_wp2_with fail
          go_roundw
          case rel => exact ⟨j + 1, by omega, by go_num, Lib.hid ⟨HB1.out, HX1.out⟩⟩
          case measure => simp [intOf]; omega
      · as_aux_lemma =>
          have hlt' : ¬ (j : Int) < (p.tasks.length : Nat) := by omega
          clear hlt
          have HP0 := Lib.hid (show PBx w.heap.size #[.slice A0 p.resources.length c0, .slice A1 p.shared.length c1, .slice A2 p.tasks.length c2] w wr from ⟨Kp.below HBp.out, HXp.out⟩)
          clear HBp HXp
          go_wp2_with fail
          go_loopw [5, 6] (fun vo i wr => ∃ j n : Nat, j ≤ p.resources.length ∧ i = .int .i64 j ∧ Hid (PBx w.heap.size #[.slice A0 p.resources.length c0, .slice A1 p.shared.length c1, .slice A2 p.tasks.length c2] w wr ∧ OutB w.heap.size vo n wr ∧ n ≤ 13 * j)) (fun _ i _ => p.resources.length - (intOf i).toNat)
          case atStart => exact ⟨0, 0, Nat.zero_le _, rfl, Lib.hid ⟨HP0.out, outb_nil _ _, by omega⟩⟩
          case round =>
            as_aux_lemma =>
              clear HP0
              obtain ⟨j, n, hj, rfl, hR⟩ := hrel
              have HQ := Lib.hid hR.out.1
              have HO := Lib.hid hR.out.2.1
              have HN := Lib.hid hR.out.2.2
              have x0 := HQ.out.bx.cell 0
              have x1 := HQ.out.bx.cell 1
              have x2 := HQ.out.bx.cell 2
              have HBl := Lib.hid (HQ.out.bel (Nat.le_refl _))
              have HKU := Lib.hid HQ.out.kp
              clear hR
              by_cases hlt : j < p.resources.length
              · as_aux_lemma =>
                  have hlt' : (j : Int) < (p.resources.length : Nat) := by omega
                  obtain ⟨b, f, x, rfl, hxm, hxc⟩ := lies_at (fun x => [Value.string x]) 1 (fun _ => rfl) HRe.out hlt
                  have k0 := hxc _ HBl.out 0 _ rfl
                  rw [Nat.add_zero, Nat.mul_one] at k0
                  have HXs := Lib.hid (HRn.out _ hxm).size.1
                  obtain ⟨u1, hzu1, qu1⟩ := catn ⟨#[114, 101, 115, 111, 117, 114, 99, 101, 32]⟩ x 9 3 12 (by decide) HXs.out (by omega) (by omega)
                  have HZu1 := Lib.hid hzu1
                  clear hzu1
                  obtain ⟨u2, hzu2, qu2⟩ := catn u1 ⟨#[10]⟩ 12 1 13 HZu1.out (by decide) (by omega) (by omega)
                  have HZu2 := Lib.hid hzu2
                  clear hzu2
                  clear hxm hxc
                  go_wp2_with (at_builtin; refine wpList_append_str rfl (.tmp 41) (.tmp 48) rfl rfl HO.out u2 rfl (by have := HZu2.out; have := HN.out; omega) HKU.out.size ?_; intro v1 W1 ho1 hk1; have HO1 := Lib.hid ho1; have HQ1 := Lib.hid (HQ.out.step hk1); clear ho1 hk1)
                  go_roundw
                  case rel => exact ⟨j + 1, n + u2.size, by omega, by go_num, Lib.hid ⟨HQ1.out, HO1.out, by have := HZu2.out; have := HN.out; omega⟩⟩
                  case measure => simp [intOf]; omega
              · as_aux_lemma =>
                  have hlt' : ¬ (j : Int) < (p.resources.length : Nat) := by omega
                  have hn26 : n ≤ 26 := by have := HN.out; omega
                  replace HN := Lib.hid hn26
                  clear hlt hn26 hj HKU HBl
                  go_wp2_with fail
                  go_loopw [5, 7] (fun vo i wr => ∃ j n : Nat, j ≤ p.shared.length ∧ i = .int .i64 j ∧ Hid (PBx w.heap.size #[.slice A0 p.resources.length c0, .slice A1 p.shared.length c1, .slice A2 p.tasks.length c2] w wr ∧ OutB w.heap.size vo n wr ∧ n ≤ 26 + 40 * j)) (fun _ i _ => p.shared.length - (intOf i).toNat)
                  case atStart => exact ⟨0, n, Nat.zero_le _, rfl, Lib.hid ⟨HQ.out, HO.out, HN.out⟩⟩
                  case round =>
                    as_aux_lemma =>
                      clear HQ HO HN x0 x1 x2 HRe HRn
                      obtain ⟨j, n, hj, rfl, hR⟩ := hrel
                      have HQ := Lib.hid hR.out.1
                      have HO := Lib.hid hR.out.2.1
                      have HN := Lib.hid hR.out.2.2
                      have x0 := HQ.out.bx.cell 0
                      have x1 := HQ.out.bx.cell 1
                      have x2 := HQ.out.bx.cell 2
                      have HBl := Lib.hid (HQ.out.bel (Nat.le_refl _))
                      have HKU := Lib.hid HQ.out.kp
                      clear hR
                      by_cases hlt : j < p.shared.length
                      · as_aux_lemma =>
                          have hlt' : (j : Int) < (p.shared.length : Nat) := by omega
                          obtain ⟨b, f, x, rfl, hxm, hxc⟩ := lies_at shCells 3 (fun _ => rfl) HSh.out.1 hlt
                          have k0 := hxc _ HBl.out 0 _ rfl
                          have k1 := hxc _ HBl.out 1 _ rfl
                          have k2 := hxc _ HBl.out 2 _ rfl
                          rw [Nat.add_zero] at k0
                          have HX1s := Lib.hid (HSh.out.2 _ hxm).1.size.1
                          have HX2s := Lib.hid (HSh.out.2 _ hxm).2.2.size.1
                          have HXn := Lib.hid (HSh.out.2 _ hxm).2.1
                          obtain ⟨u1, hzu1, qu1⟩ := catn ⟨#[115, 104, 97, 114, 101, 100, 32]⟩ x.1 7 3 10 (by decide) HX1s.out (by omega) (by omega)
                          have HZu1 := Lib.hid hzu1
                          clear hzu1
                          obtain ⟨u2, hzu2, qu2⟩ := catn u1 ⟨#[32]⟩ 10 1 11 HZu1.out (by decide) (by omega) (by omega)
                          have HZu2 := Lib.hid hzu2
                          clear hzu2
                          clear hxm hxc HBl
                          have HX := Lib.hid (Blk.new wr 70 #[.string x.1, .int .i64 x.2.1, .string x.2.2])
                          have HU := Lib.hid (kp_alloc w.heap.size wr (.cells #[.string x.1, .int .i64 x.2.1, .string x.2.2] 70))
                          replace HO := Lib.hid (OutB.below HO.out (((Below.refl wr.heap.size wr).alloc (Nat.le_refl _) (.cells #[.string x.1, .int .i64 x.2.1, .string x.2.2] 70))))
                          replace HKU := Lib.hid (HKU.out.trans HU.out)
                          go_wp2_with fail
                          generalize wr.alloc (.cells #[.string x.1, .int .i64 x.2.1, .string x.2.2] 70) = WU at *
                          clear x0 x1 x2 k0 k1 k2
                          have HZf := Lib.hid (fun (w' : World) (h : Kp w.heap.size WU w') (hx : Blk w' wr.heap.size 70 #[.string x.1, .int .i64 x.2.1, .string x.2.2]) => (show w'.cell? ⟨wr.heap.size, 0, none⟩ = some (.string x.1) ∧ w'.cell? ⟨wr.heap.size, 1, none⟩ = some (.int .i64 x.2.1) ∧ w'.cell? ⟨wr.heap.size, 2, none⟩ = some (.string x.2.2) from ⟨hx.cell 0, hx.cell 1, hx.cell 2⟩))
                          have HKd := Lib.hid ((Kp.refl w.heap.size WU).drew)
                          have HXd := Lib.hid (HX.out.below (w' := WU.drew) ⟨rfl, rfl, rfl, Nat.le_refl _, fun _ _ => rfl⟩ HX.out.lt)
                          have HOd := Lib.hid (OutB.below HO.out (w' := WU.drew) ⟨rfl, rfl, rfl, Nat.le_refl _, fun _ _ => rfl⟩)
                          have z := HZf.out _ HKd.out HXd.out
                          have hbase : w.heap.size ≤ WU.heap.size := HKU.out.size
                          go_region_held_law (fun w' => w'.cell? ⟨wr.heap.size, 0, none⟩ = some (.string x.1) ∧ w'.cell? ⟨wr.heap.size, 1, none⟩ = some (.int .i64 x.2.1) ∧ w'.cell? ⟨wr.heap.size, 2, none⟩ = some (.string x.2.2))
                            (first | (with_reducible assumption) | (with_reducible exact z) | (with_reducible exact z2) | (with_reducible exact z9))
                            (first
                              | (refine step_append_str _ rfl (.tmp 62) (.tmp 77) rfl (by simp [Act.eval]) HO2.out t4 (by simp [Act.eval]) (by (have := HZt4.out; have := HN.out; omega)) (Nat.le_trans hbase HK2.out.size) ?_; intro v9 W9 ho9 hk9; have HO9 := Lib.hid ho9; have HK9 := Lib.hid (HK2.out.trans hk9); have HX9 := Lib.hid (hk9.blk HX2.out (by decide)); have z9 := HZf.out _ HK9.out HX9.out; clear ho9 hk9)
                              | (go_simp; go_at_call 28; (with_reducible refine (number_any x.2.1 (by have := HXn.out; omega) _).mono ?_); rintro e W2 ⟨r2, rfl, hr, hb⟩; have HR2 := Lib.hid hr; clear hr; obtain ⟨t1, hzt1, qt1⟩ := catn u2 r2 11 11 22 HZu2.out HR2.out (by omega) (by omega); have HZt1 := Lib.hid hzt1; clear hzt1; obtain ⟨t2, hzt2, qt2⟩ := catn t1 ⟨#[32]⟩ 22 1 23 HZt1.out (by decide) (by omega) (by omega); have HZt2 := Lib.hid hzt2; clear hzt2; obtain ⟨t3, hzt3, qt3⟩ := catn t2 x.2.2 23 3 26 HZt2.out HX2s.out (by omega) (by omega); have HZt3 := Lib.hid hzt3; clear hzt3; obtain ⟨t4, hzt4, qt4⟩ := catn t3 ⟨#[10]⟩ 26 1 27 HZt3.out (by decide) (by omega) (by omega); have HZt4 := Lib.hid hzt4; clear hzt4; have HO2 := Lib.hid (OutB.below HOd.out hb); have HK2 := Lib.hid (HKd.out.trans (Kp.below hb)); have HX2 := Lib.hid (HXd.out.below hb HXd.out.lt); have z2 := HZf.out _ HK2.out HX2.out; clear hb)
                              | fail "an arm")
                          all_goals
                            have HQ1 := Lib.hid (HQ.out.step (HU.out.trans HK9.out))
                            go_wp2_with fail
                            go_roundw
                            case rel => exact ⟨j + 1, n + t4.size, by omega, by go_num, Lib.hid ⟨HQ1.out, HO9.out, by have := HZt4.out; have := HN.out; omega⟩⟩
                            case measure => simp [intOf]; omega
                      · as_aux_lemma =>
                          have hlt' : ¬ (j : Int) < (p.shared.length : Nat) := by omega
                          have hn66 : n ≤ 66 := by have := HN.out; omega
                          replace HN := Lib.hid hn66
                          clear hlt hn66 hj HKU HBl HSh
                          go_wp2_with fail
                          go_loopw [5, 9] (fun vo i wr => ∃ j n : Nat, j ≤ p.tasks.length ∧ i = .int .i64 j ∧ Hid (PBx w.heap.size #[.slice A0 p.resources.length c0, .slice A1 p.shared.length c1, .slice A2 p.tasks.length c2] w wr ∧ OutB w.heap.size vo n wr ∧ n ≤ 66 + 2000000400 * j)) (fun _ i _ => p.tasks.length - (intOf i).toNat)
                          case atStart => exact ⟨0, n, Nat.zero_le _, rfl, Lib.hid ⟨HQ.out, HO.out, HN.out⟩⟩
                          case round =>
                            as_aux_lemma =>
                              clear HQ HO HN x0 x1 x2
                              obtain ⟨j, n, hj, rfl, hR⟩ := hrel
                              have HQ := Lib.hid hR.out.1
                              have HO := Lib.hid hR.out.2.1
                              have HN := Lib.hid hR.out.2.2
                              have x0 := HQ.out.bx.cell 0
                              have x1 := HQ.out.bx.cell 1
                              have x2 := HQ.out.bx.cell 2
                              have HBl := Lib.hid (HQ.out.bel (Nat.le_refl _))
                              have HKU := Lib.hid HQ.out.kp
                              clear hR
                              by_cases hlt : j < p.tasks.length
                              · as_aux_lemma =>
                                  have hlt' : (j : Int) < (p.tasks.length : Nat) := by omega
                                  obtain ⟨b, f, rfl, hxc⟩ := lies_cell HTk.out.1 (by omega)
                                  obtain ⟨ys, hrow, hys⟩ := Tsks.at HTk.out.2.1 j hlt
                                  have HOk := Lib.hid (HTk.out.2.2 _ (List.getElem_mem hlt))
                                  obtain ⟨A5, c5, A6, c6, A7, c7, A8, c8, A9, c9, A10, c10, rfl, q5, q6, q7, q8, q9, q10, q11⟩ := hrow
                                  have k0 := hxc _ HBl.out _ _ (hys 0 _ rfl)
                                  have k1 := hxc _ HBl.out _ _ (hys 1 _ rfl)
                                  have k2 := hxc _ HBl.out _ _ (hys 2 _ rfl)
                                  have k3 := hxc _ HBl.out _ _ (hys 3 _ rfl)
                                  have k4 := hxc _ HBl.out _ _ (hys 4 _ rfl)
                                  have k5 := hxc _ HBl.out _ _ (hys 5 _ rfl)
                                  have k6 := hxc _ HBl.out _ _ (hys 6 _ rfl)
                                  have k7 := hxc _ HBl.out _ _ (hys 7 _ rfl)
                                  have k8 := hxc _ HBl.out _ _ (hys 8 _ rfl)
                                  have k9 := hxc _ HBl.out _ _ (hys 9 _ rfl)
                                  have k10 := hxc _ HBl.out _ _ (hys 10 _ rfl)
                                  rw [Nat.add_zero] at k0
                                  rw [← Nat.add_assoc] at k1 k2 k3 k4 k5 k6 k7 k8 k9 k10
                                  generalize p.tasks[j] = t at *
                                  have HNa := Lib.hid (show t.name.size ≤ 2 by obtain ⟨i, _, e⟩ := HOk.out.name; rw [e]; exact Nat.le_refl 2)
                                  have HNu := Lib.hid HOk.out.nums
                                  have Q5 := Lib.hid (And.intro q5 HOk.out.inputs)
                                  have Q6 := Lib.hid (And.intro (show Lies w (fun b => b < w.heap.size) A6 t.vars.length c6 1 (t.vars.flatMap fun x => [Value.string x]) by rw [← strs_flat]; exact q6) HOk.out.vars)
                                  have Q7 := Lib.hid (And.intro q7 HOk.out.arrays)
                                  have Q8 := Lib.hid (And.intro q8 HOk.out.modes)
                                  have Q9 := Lib.hid (And.intro q9 HOk.out.claims)
                                  have Q10 := Lib.hid (And.intro q11 HOk.out.body)
                                  obtain ⟨u1, hzu1, qu1⟩ := catn ⟨#[116, 97, 115, 107, 32]⟩ t.name 5 2 7 (by decide) HNa.out (by omega) (by omega)
                                  have HZu1 := Lib.hid hzu1
                                  clear hzu1
                                  obtain ⟨u2, hzu2, qu2⟩ := catn u1 ⟨#[32, 112, 101, 114, 105, 111, 100, 32]⟩ 7 8 15 HZu1.out (by decide) (by omega) (by omega)
                                  have HZu2 := Lib.hid hzu2
                                  clear hzu2
                                  clear hxc hys HOk HBl q5 q6 q7 q8 q9 q10 q11
                                  have HX := Lib.hid (Blk.new wr 66 #[.string t.name, .int .i64 t.period, .int .i64 t.deadline, .int .i64 t.priority, .int .i64 t.jitter, .slice A5 t.inputs.length c5, .slice A6 t.vars.length c6, .slice A7 t.arrays.length c7, .slice A8 t.modes.length c8, .slice A9 t.claims.length c9, .slice A10 t.body.len c10])
                                  have HU := Lib.hid (kp_alloc w.heap.size wr (.cells #[.string t.name, .int .i64 t.period, .int .i64 t.deadline, .int .i64 t.priority, .int .i64 t.jitter, .slice A5 t.inputs.length c5, .slice A6 t.vars.length c6, .slice A7 t.arrays.length c7, .slice A8 t.modes.length c8, .slice A9 t.claims.length c9, .slice A10 t.body.len c10] 66))
                                  replace HO := Lib.hid (OutB.below HO.out (((Below.refl wr.heap.size wr).alloc (Nat.le_refl _) (.cells #[.string t.name, .int .i64 t.period, .int .i64 t.deadline, .int .i64 t.priority, .int .i64 t.jitter, .slice A5 t.inputs.length c5, .slice A6 t.vars.length c6, .slice A7 t.arrays.length c7, .slice A8 t.modes.length c8, .slice A9 t.claims.length c9, .slice A10 t.body.len c10] 66))))
                                  replace HKU := Lib.hid (HKU.out.trans HU.out)
                                  go_wp2_with fail
                                  generalize wr.alloc (.cells #[.string t.name, .int .i64 t.period, .int .i64 t.deadline, .int .i64 t.priority, .int .i64 t.jitter, .slice A5 t.inputs.length c5, .slice A6 t.vars.length c6, .slice A7 t.arrays.length c7, .slice A8 t.modes.length c8, .slice A9 t.claims.length c9, .slice A10 t.body.len c10] 66) = WU at *
                                  generalize wr.heap.size = g at *
                                  clear x0 x1 x2 k0 k1 k2 k3 k4 k5 k6 k7 k8 k9 k10
                                  have HZf := Lib.hid (fun (w' : World) (h : Kp w.heap.size WU w') (hx : Blk w' g 66 #[.string t.name, .int .i64 t.period, .int .i64 t.deadline, .int .i64 t.priority, .int .i64 t.jitter, .slice A5 t.inputs.length c5, .slice A6 t.vars.length c6, .slice A7 t.arrays.length c7, .slice A8 t.modes.length c8, .slice A9 t.claims.length c9, .slice A10 t.body.len c10]) => (show w'.cell? ⟨g, 0, none⟩ = some (.string t.name) ∧ w'.cell? ⟨g, 1, none⟩ = some (.int .i64 t.period) ∧ w'.cell? ⟨g, 2, none⟩ = some (.int .i64 t.deadline) ∧ w'.cell? ⟨g, 3, none⟩ = some (.int .i64 t.priority) ∧ w'.cell? ⟨g, 4, none⟩ = some (.int .i64 t.jitter) from ⟨hx.cell 0, hx.cell 1, hx.cell 2, hx.cell 3, hx.cell 4⟩))
                                  have HKd := Lib.hid ((Kp.refl w.heap.size WU).drew)
                                  have HXd := Lib.hid (HX.out.below (w' := WU.drew) ⟨rfl, rfl, rfl, Nat.le_refl _, fun _ _ => rfl⟩ HX.out.lt)
                                  have HOd := Lib.hid (OutB.below HO.out (w' := WU.drew) ⟨rfl, rfl, rfl, Nat.le_refl _, fun _ _ => rfl⟩)
                                  have z := HZf.out _ HKd.out HXd.out
                                  have hbase : w.heap.size ≤ WU.heap.size := HKU.out.size
                                  go_region_held_law (fun w' => w'.cell? ⟨g, 0, none⟩ = some (.string t.name) ∧ w'.cell? ⟨g, 1, none⟩ = some (.int .i64 t.period) ∧ w'.cell? ⟨g, 2, none⟩ = some (.int .i64 t.deadline) ∧ w'.cell? ⟨g, 3, none⟩ = some (.int .i64 t.priority) ∧ w'.cell? ⟨g, 4, none⟩ = some (.int .i64 t.jitter))
                                    (first | (with_reducible assumption) | (with_reducible exact z) | (with_reducible exact z2) | (with_reducible exact z3) | (with_reducible exact z4) | (with_reducible exact z5) | (with_reducible exact z9))
                                    (first
                                      | (refine step_append_str _ rfl (.tmp 91) (.tmp 115) rfl (by simp [Act.eval]) HO5.out t8 (by simp [Act.eval]) (by (have := HZt8.out; have := HN.out; omega)) (Nat.le_trans hbase HK5.out.size) ?_; intro v9 W9 ho9 hk9; have HO9 := Lib.hid ho9; have HK9 := Lib.hid (HK5.out.trans hk9); have HX9 := Lib.hid (hk9.blk HX5.out (by decide)); have z9 := HZf.out _ HK9.out HX9.out; clear ho9 hk9)
                                      | (go_simp; go_at_call 28; (with_reducible refine (number_any t.period (by have := HNu.out; omega) _).mono ?_); rintro e W2 ⟨r2, rfl, hr, hb⟩; have HR2 := Lib.hid hr; clear hr; obtain ⟨t1, hzt1, qt1⟩ := catn u2 r2 15 11 26 HZu2.out HR2.out (by omega) (by omega); have HZt1 := Lib.hid hzt1; clear hzt1; obtain ⟨t2, hzt2, qt2⟩ := catn t1 ⟨#[32, 100, 101, 97, 100, 108, 105, 110, 101, 32]⟩ 26 10 36 HZt1.out (by decide) (by omega) (by omega); have HZt2 := Lib.hid hzt2; clear hzt2; have HO2 := Lib.hid (OutB.below HOd.out hb); have HK2 := Lib.hid (HKd.out.trans (Kp.below hb)); have HX2 := Lib.hid (HXd.out.below hb HXd.out.lt); have z2 := HZf.out _ HK2.out HX2.out; clear hb)
                                      | (go_simp; go_at_call 28; (with_reducible refine (number_any t.deadline (by have := HNu.out; omega) _).mono ?_); rintro e W3 ⟨r3, rfl, hr, hb⟩; have HR3 := Lib.hid hr; clear hr; obtain ⟨t3, hzt3, qt3⟩ := catn t2 r3 36 11 47 HZt2.out HR3.out (by omega) (by omega); have HZt3 := Lib.hid hzt3; clear hzt3; obtain ⟨t4, hzt4, qt4⟩ := catn t3 ⟨#[32, 112, 114, 105, 111, 114, 105, 116, 121, 32]⟩ 47 10 57 HZt3.out (by decide) (by omega) (by omega); have HZt4 := Lib.hid hzt4; clear hzt4; have HO3 := Lib.hid (OutB.below HO2.out hb); have HK3 := Lib.hid (HK2.out.trans (Kp.below hb)); have HX3 := Lib.hid (HX2.out.below hb HX2.out.lt); have z3 := HZf.out _ HK3.out HX3.out; clear hb)
                                      | (go_simp; go_at_call 28; (with_reducible refine (number_any t.priority (by have := HNu.out; omega) _).mono ?_); rintro e W4 ⟨r4, rfl, hr, hb⟩; have HR4 := Lib.hid hr; clear hr; obtain ⟨t5, hzt5, qt5⟩ := catn t4 r4 57 11 68 HZt4.out HR4.out (by omega) (by omega); have HZt5 := Lib.hid hzt5; clear hzt5; obtain ⟨t6, hzt6, qt6⟩ := catn t5 ⟨#[32, 106, 105, 116, 116, 101, 114, 32]⟩ 68 8 76 HZt5.out (by decide) (by omega) (by omega); have HZt6 := Lib.hid hzt6; clear hzt6; have HO4 := Lib.hid (OutB.below HO3.out hb); have HK4 := Lib.hid (HK3.out.trans (Kp.below hb)); have HX4 := Lib.hid (HX3.out.below hb HX3.out.lt); have z4 := HZf.out _ HK4.out HX4.out; clear hb)
                                      | (go_simp; go_at_call 28; (with_reducible refine (number_any t.jitter (by have := HNu.out; omega) _).mono ?_); rintro e W5 ⟨r5, rfl, hr, hb⟩; have HR5 := Lib.hid hr; clear hr; obtain ⟨t7, hzt7, qt7⟩ := catn t6 r5 76 11 87 HZt6.out HR5.out (by omega) (by omega); have HZt7 := Lib.hid hzt7; clear hzt7; obtain ⟨t8, hzt8, qt8⟩ := catn t7 ⟨#[10]⟩ 87 1 88 HZt7.out (by decide) (by omega) (by omega); have HZt8 := Lib.hid hzt8; clear hzt8; have HO5 := Lib.hid (OutB.below HO4.out hb); have HK5 := Lib.hid (HK4.out.trans (Kp.below hb)); have HX5 := Lib.hid (HX4.out.below hb HX4.out.lt); have z5 := HZf.out _ HK5.out HX5.out; clear hb)
                                      | fail "an arm")
                                  have HP4 := Lib.hid (HQ.out.step (HU.out.trans HK9.out))
                                  have HT4 := Lib.hid HX9.out
                                  have HN4 := Lib.hid (show n + t8.size ≤ 66 + 2000000400 * j + 100 by have := HZt8.out; have := HN.out; omega)
                                  have HO4 := Lib.hid HO9.out
                                  generalize n + t8.size = m at *
                                  clear HQ HU HX HO HKU HKd HXd HOd HZf z hbase HK9 HX9 HO9 HN
                                  go_wp2_with fail
                                  go_loopw [5, 11] (fun vo i wr => ∃ i1 n : Nat, i1 ≤ t.inputs.length ∧ i = .int .i64 i1 ∧ Hid (PBx w.heap.size #[.slice A0 p.resources.length c0, .slice A1 p.shared.length c1, .slice (some ⟨b, f, none⟩) p.tasks.length c2] w wr ∧ Blk wr g 66 #[.string t.name, .int .i64 t.period, .int .i64 t.deadline, .int .i64 t.priority, .int .i64 t.jitter, .slice A5 t.inputs.length c5, .slice A6 t.vars.length c6, .slice A7 t.arrays.length c7, .slice A8 t.modes.length c8, .slice A9 t.claims.length c9, .slice A10 t.body.len c10] ∧ OutB w.heap.size vo n wr ∧ n ≤ 66 + 2000000400 * j + 100 + 40 * i1)) (fun _ i _ => t.inputs.length - (intOf i).toNat)
                                  case atStart => exact ⟨0, m, Nat.zero_le _, rfl, Lib.hid ⟨HP4.out, HT4.out, HO4.out, HN4.out⟩⟩
                                  case round =>
                                    as_aux_lemma =>
                                      clear HP4 HT4 HO4 HN4
                                      obtain ⟨i, n, hi, rfl, hR⟩ := hrel
                                      have HQ := Lib.hid hR.out.1
                                      have HX := Lib.hid hR.out.2.1
                                      have HO := Lib.hid hR.out.2.2.1
                                      have HN := Lib.hid hR.out.2.2.2
                                      have HBl := Lib.hid (HQ.out.bel (Nat.le_refl _))
                                      have HKU := Lib.hid HQ.out.kp
                                      have y := HX.out.cell 5
                                      have hlen := Q5.out.2.1
                                      clear hR
                                      by_cases hlt2 : i < t.inputs.length
                                      · as_aux_lemma =>
                                          have hlt2' : (i : Int) < ((t.inputs.length : Nat) : Int) := by omega
                                          obtain ⟨b2, f2, x, rfl, hxm, hxc⟩ := lies_at inCells 3 (fun _ => rfl) Q5.out.1 hlt2
                                          have HIx := Lib.hid (show Nm x.1 ∧ (-2 ≤ x.2.1 ∧ x.2.1 ≤ 3) ∧ (x.2.1 ≤ x.2.2 ∧ x.2.2 ≤ x.2.1 + 11) from Q5.out.2.2 _ hxm)
                                          have HXs := Lib.hid HIx.out.1.size.1
                                          obtain ⟨u1, hzu1, qu1⟩ := catn ⟨#[105, 110, 112, 117, 116, 32]⟩ x.1 6 3 9 (by decide) HXs.out (by omega) (by omega)
                                          have HZu1 := Lib.hid hzu1
                                          clear hzu1
                                          obtain ⟨u2, hzu2, qu2⟩ := catn u1 ⟨#[32]⟩ 9 1 10 HZu1.out (by decide) (by omega) (by omega)
                                          have HZu2 := Lib.hid hzu2
                                          clear hzu2
                                          have HE := Lib.hid (fun (W : World) (hb : Below w.heap.size w W) => (show W.cell? ⟨b2, f2 + i * 3, none⟩ = some (.string x.1) ∧ W.cell? ⟨b2, f2 + i * 3 + 1, none⟩ = some (.int .i64 x.2.1) ∧ W.cell? ⟨b2, f2 + i * 3 + 2, none⟩ = some (.int .i64 x.2.2) from ⟨(by have h := hxc W hb 0 _ rfl; rwa [Nat.add_zero] at h), hxc W hb 1 _ rfl, hxc W hb 2 _ rfl⟩))
                                          clear hxm hxc HBl
                                          go_wp2_with fail
                                          clear y
                                          have HZf := Lib.hid (fun (w' : World) (h : Kp w.heap.size wr w') (hx : Blk w' g 66 #[.string t.name, .int .i64 t.period, .int .i64 t.deadline, .int .i64 t.priority, .int .i64 t.jitter, .slice (some ⟨b2, f2, none⟩) t.inputs.length c5, .slice A6 t.vars.length c6, .slice A7 t.arrays.length c7, .slice A8 t.modes.length c8, .slice A9 t.claims.length c9, .slice A10 t.body.len c10]) => (show w'.cell? ⟨g, 5, none⟩ = some (.slice (some ⟨b2, f2, none⟩) t.inputs.length c5) ∧ w'.cell? ⟨b2, f2 + i * 3, none⟩ = some (.string x.1) ∧ w'.cell? ⟨b2, f2 + i * 3 + 1, none⟩ = some (.int .i64 x.2.1) ∧ w'.cell? ⟨b2, f2 + i * 3 + 2, none⟩ = some (.int .i64 x.2.2) from ⟨hx.cell 5, HE.out w' ((HKU.out.trans h).toBelow (Nat.le_refl _))⟩))
                                          have HKd := Lib.hid ((Kp.refl w.heap.size wr).drew)
                                          have HXd := Lib.hid (HX.out.below (w' := wr.drew) ⟨rfl, rfl, rfl, Nat.le_refl _, fun _ _ => rfl⟩ HX.out.lt)
                                          have HOd := Lib.hid (OutB.below HO.out (w' := wr.drew) ⟨rfl, rfl, rfl, Nat.le_refl _, fun _ _ => rfl⟩)
                                          have z := HZf.out _ HKd.out HXd.out
                                          have hbase : w.heap.size ≤ wr.heap.size := HKU.out.size
                                          go_region_held_law (fun w' => w'.cell? ⟨g, 5, none⟩ = some (.slice (some ⟨b2, f2, none⟩) t.inputs.length c5) ∧ w'.cell? ⟨b2, f2 + i * 3, none⟩ = some (.string x.1) ∧ w'.cell? ⟨b2, f2 + i * 3 + 1, none⟩ = some (.int .i64 x.2.1) ∧ w'.cell? ⟨b2, f2 + i * 3 + 2, none⟩ = some (.int .i64 x.2.2))
                                            (first | (with_reducible assumption) | (with_reducible exact z) | (with_reducible exact z2) | (with_reducible exact z3) | (with_reducible exact z9))
                                            (first
                                              | (refine step_append_str _ rfl (.tmp 124) (.tmp 150) rfl (by simp [Act.eval]) HO3.out t4 (by simp [Act.eval]) (by (have := HZt4.out; have := HN.out; omega)) (Nat.le_trans hbase HK3.out.size) ?_; intro v9 W9 ho9 hk9; have HO9 := Lib.hid ho9; have HK9 := Lib.hid (HK3.out.trans hk9); have HX9 := Lib.hid (hk9.blk HX3.out (by decide)); have z9 := HZf.out _ HK9.out HX9.out; clear ho9 hk9)
                                              | (go_simp; go_at_call 28; (with_reducible refine (number_any x.2.1 (by have := HIx.out.2; omega) _).mono ?_); rintro e W2 ⟨r2, rfl, hr, hb⟩; have HR2 := Lib.hid hr; clear hr; obtain ⟨t1, hzt1, qt1⟩ := catn u2 r2 10 11 21 HZu2.out HR2.out (by omega) (by omega); have HZt1 := Lib.hid hzt1; clear hzt1; obtain ⟨t2, hzt2, qt2⟩ := catn t1 ⟨#[32]⟩ 21 1 22 HZt1.out (by decide) (by omega) (by omega); have HZt2 := Lib.hid hzt2; clear hzt2; have HO2 := Lib.hid (OutB.below HOd.out hb); have HK2 := Lib.hid (HKd.out.trans (Kp.below hb)); have HX2 := Lib.hid (HXd.out.below hb HXd.out.lt); have z2 := HZf.out _ HK2.out HX2.out; clear hb)
                                              | (go_simp; go_at_call 28; (with_reducible refine (number_any x.2.2 (by have := HIx.out.2; omega) _).mono ?_); rintro e W3 ⟨r3, rfl, hr, hb⟩; have HR3 := Lib.hid hr; clear hr; obtain ⟨t3, hzt3, qt3⟩ := catn t2 r3 22 11 33 HZt2.out HR3.out (by omega) (by omega); have HZt3 := Lib.hid hzt3; clear hzt3; obtain ⟨t4, hzt4, qt4⟩ := catn t3 ⟨#[10]⟩ 33 1 34 HZt3.out (by decide) (by omega) (by omega); have HZt4 := Lib.hid hzt4; clear hzt4; have HO3 := Lib.hid (OutB.below HO2.out hb); have HK3 := Lib.hid (HK2.out.trans (Kp.below hb)); have HX3 := Lib.hid (HX2.out.below hb HX2.out.lt); have z3 := HZf.out _ HK3.out HX3.out; clear hb)
                                              | fail "an arm")
                                          have HQ1 := Lib.hid (HQ.out.step HK9.out)
                                          have HX1 := Lib.hid HX9.out
                                          go_wp2_with fail
                                          go_roundw
                                          case rel => exact ⟨i + 1, n + t4.size, by omega, by go_num, Lib.hid ⟨HQ1.out, HX1.out, HO9.out, by have := HZt4.out; have := HN.out; omega⟩⟩
                                          case measure => simp [intOf]; omega
                                      · as_aux_lemma =>
                                          have hlt2' : ¬ (i : Int) < ((t.inputs.length : Nat) : Int) := by omega
                                          have hnn : n ≤ 66 + 2000000400 * j + 180 := by have := HN.out; have := Q5.out.2.1; omega
                                          have HP4 := Lib.hid HQ.out
                                          have HT4 := Lib.hid HX.out
                                          have HO4 := Lib.hid HO.out
                                          have HN4 := Lib.hid hnn
                                          clear HQ HX HO HN HBl HKU hlt2 hi hnn hlen Q5
                                          go_wp2_with fail
                                          go_loopw [5, 12] (fun vo i wr => ∃ i1 n : Nat, i1 ≤ t.vars.length ∧ i = .int .i64 i1 ∧ Hid (PBx w.heap.size #[.slice A0 p.resources.length c0, .slice A1 p.shared.length c1, .slice (some ⟨b, f, none⟩) p.tasks.length c2] w wr ∧ Blk wr g 66 #[.string t.name, .int .i64 t.period, .int .i64 t.deadline, .int .i64 t.priority, .int .i64 t.jitter, .slice A5 t.inputs.length c5, .slice A6 t.vars.length c6, .slice A7 t.arrays.length c7, .slice A8 t.modes.length c8, .slice A9 t.claims.length c9, .slice A10 t.body.len c10] ∧ OutB w.heap.size vo n wr ∧ n ≤ 66 + 2000000400 * j + 180 + 10 * i1)) (fun _ i _ => t.vars.length - (intOf i).toNat)
                                          case atStart => exact ⟨0, n, Nat.zero_le _, rfl, Lib.hid ⟨HP4.out, HT4.out, HO4.out, HN4.out⟩⟩
                                          case round =>
                                            as_aux_lemma =>
                                              clear HP4 HT4 HO4 HN4
                                              obtain ⟨i, n, hi, rfl, hR⟩ := hrel
                                              have HQ := Lib.hid hR.out.1
                                              have HX := Lib.hid hR.out.2.1
                                              have HO := Lib.hid hR.out.2.2.1
                                              have HN := Lib.hid hR.out.2.2.2
                                              have HBl := Lib.hid (HQ.out.bel (Nat.le_refl _))
                                              have HKU := Lib.hid HQ.out.kp
                                              have y := HX.out.cell 6
                                              have hlen := (show t.vars.length ≤ 3 by rw [Q6.out.2]; decide)
                                              clear hR
                                              by_cases hlt2 : i < t.vars.length
                                              · as_aux_lemma =>
                                                  have hlt2' : (i : Int) < ((t.vars.length : Nat) : Int) := by omega
                                                  obtain ⟨b2, f2, x, rfl, hxm, hxc⟩ := lies_at (fun x => [Value.string x]) 1 (fun _ => rfl) Q6.out.1 hlt2
                                                  have HXs := Lib.hid (show x.size ≤ 3 by
                                                    rw [Q6.out.2] at hxm
                                                    simp only [List.mem_cons, List.not_mem_nil, or_false] at hxm
                                                    rcases hxm with rfl | rfl | rfl <;> decide)
                                                  have k0 := hxc _ HBl.out 0 _ rfl
                                                  rw [Nat.add_zero, Nat.mul_one] at k0
                                                  obtain ⟨u1, hzu1, qu1⟩ := catn ⟨#[118, 97, 114, 32]⟩ x 4 3 7 (by decide) HXs.out (by omega) (by omega)
                                                  have HZu1 := Lib.hid hzu1
                                                  clear hzu1
                                                  obtain ⟨u2, hzu2, qu2⟩ := catn u1 ⟨#[10]⟩ 7 1 8 HZu1.out (by decide) (by omega) (by omega)
                                                  have HZu2 := Lib.hid hzu2
                                                  clear hzu2
                                                  clear hxm hxc HBl
                                                  go_wp2_with (at_builtin; refine wpList_append_str rfl (.tmp 159) (.tmp 166) rfl rfl HO.out u2 rfl (by have := HZu2.out; have := HN.out; omega) HKU.out.size ?_; intro v9 W9 ho9 hk9; have HO9 := Lib.hid ho9; have HQ1 := Lib.hid (HQ.out.step hk9); have HX1 := Lib.hid (hk9.blk HX.out (by decide)); clear ho9 hk9 y k0)
                                                  go_wp2_with fail
                                                  go_roundw
                                                  case rel => exact ⟨i + 1, n + u2.size, by omega, by go_num, Lib.hid ⟨HQ1.out, HX1.out, HO9.out, by have := HZu2.out; have := HN.out; omega⟩⟩
                                                  case measure => simp [intOf]; omega
                                              · as_aux_lemma =>
                                                  have hlt2' : ¬ (i : Int) < ((t.vars.length : Nat) : Int) := by omega
                                                  have hnn : n ≤ 66 + 2000000400 * j + 210 := by have := HN.out; have := (show t.vars.length ≤ 3 by rw [Q6.out.2]; decide); omega
                                                  have HP4 := Lib.hid HQ.out
                                                  have HT4 := Lib.hid HX.out
                                                  have HO4 := Lib.hid HO.out
                                                  have HN4 := Lib.hid hnn
                                                  clear HQ HX HO HN HBl HKU hlt2 hi hnn hlen Q6
                                                  go_wp2_with fail
                                                  go_loopw [5, 13] (fun vo i wr => ∃ i1 n : Nat, i1 ≤ t.arrays.length ∧ i = .int .i64 i1 ∧ Hid (PBx w.heap.size #[.slice A0 p.resources.length c0, .slice A1 p.shared.length c1, .slice (some ⟨b, f, none⟩) p.tasks.length c2] w wr ∧ Blk wr g 66 #[.string t.name, .int .i64 t.period, .int .i64 t.deadline, .int .i64 t.priority, .int .i64 t.jitter, .slice A5 t.inputs.length c5, .slice A6 t.vars.length c6, .slice A7 t.arrays.length c7, .slice A8 t.modes.length c8, .slice A9 t.claims.length c9, .slice A10 t.body.len c10] ∧ OutB w.heap.size vo n wr ∧ n ≤ 66 + 2000000400 * j + 210 + 30 * i1)) (fun _ i _ => t.arrays.length - (intOf i).toNat)
                                                  case atStart => exact ⟨0, n, Nat.zero_le _, rfl, Lib.hid ⟨HP4.out, HT4.out, HO4.out, HN4.out⟩⟩
                                                  case round =>
                                                    as_aux_lemma =>
                                                      clear HP4 HT4 HO4 HN4
                                                      obtain ⟨i, n, hi, rfl, hR⟩ := hrel
                                                      have HQ := Lib.hid hR.out.1
                                                      have HX := Lib.hid hR.out.2.1
                                                      have HO := Lib.hid hR.out.2.2.1
                                                      have HN := Lib.hid hR.out.2.2.2
                                                      have HBl := Lib.hid (HQ.out.bel (Nat.le_refl _))
                                                      have HKU := Lib.hid HQ.out.kp
                                                      have y := HX.out.cell 7
                                                      have hlen := Q7.out.2.1
                                                      clear hR
                                                      by_cases hlt2 : i < t.arrays.length
                                                      · as_aux_lemma =>
                                                          have hlt2' : (i : Int) < ((t.arrays.length : Nat) : Int) := by omega
                                                          obtain ⟨b2, f2, x, rfl, hxm, hxc⟩ := lies_at arCells 2 (fun _ => rfl) Q7.out.1 hlt2
                                                          have HIx := Lib.hid (Q7.out.2.2 _ hxm)
                                                          have HXs := Lib.hid HIx.out.1.size.1
                                                          obtain ⟨u1, hzu1, qu1⟩ := catn ⟨#[97, 114, 114, 97, 121, 32]⟩ x.1 6 3 9 (by decide) HXs.out (by omega) (by omega)
                                                          have HZu1 := Lib.hid hzu1
                                                          clear hzu1
                                                          obtain ⟨u2, hzu2, qu2⟩ := catn u1 ⟨#[32]⟩ 9 1 10 HZu1.out (by decide) (by omega) (by omega)
                                                          have HZu2 := Lib.hid hzu2
                                                          clear hzu2
                                                          have HE := Lib.hid (fun (W : World) (hb : Below w.heap.size w W) => (show W.cell? ⟨b2, f2 + i * 2, none⟩ = some (.string x.1) ∧ W.cell? ⟨b2, f2 + i * 2 + 1, none⟩ = some (.int .i64 x.2) from ⟨(by have h := hxc W hb 0 _ rfl; rwa [Nat.add_zero] at h), hxc W hb 1 _ rfl⟩))
                                                          clear hxm hxc HBl
                                                          go_wp2_with fail
                                                          clear y
                                                          have HZf := Lib.hid (fun (w' : World) (h : Kp w.heap.size wr w') (hx : Blk w' g 66 #[.string t.name, .int .i64 t.period, .int .i64 t.deadline, .int .i64 t.priority, .int .i64 t.jitter, .slice A5 t.inputs.length c5, .slice A6 t.vars.length c6, .slice (some ⟨b2, f2, none⟩) t.arrays.length c7, .slice A8 t.modes.length c8, .slice A9 t.claims.length c9, .slice A10 t.body.len c10]) => (show w'.cell? ⟨g, 7, none⟩ = some (.slice (some ⟨b2, f2, none⟩) t.arrays.length c7) ∧ w'.cell? ⟨b2, f2 + i * 2, none⟩ = some (.string x.1) ∧ w'.cell? ⟨b2, f2 + i * 2 + 1, none⟩ = some (.int .i64 x.2) from ⟨hx.cell 7, HE.out w' ((HKU.out.trans h).toBelow (Nat.le_refl _))⟩))
                                                          have HKd := Lib.hid ((Kp.refl w.heap.size wr).drew)
                                                          have HXd := Lib.hid (HX.out.below (w' := wr.drew) ⟨rfl, rfl, rfl, Nat.le_refl _, fun _ _ => rfl⟩ HX.out.lt)
                                                          have HOd := Lib.hid (OutB.below HO.out (w' := wr.drew) ⟨rfl, rfl, rfl, Nat.le_refl _, fun _ _ => rfl⟩)
                                                          have z := HZf.out _ HKd.out HXd.out
                                                          have hbase : w.heap.size ≤ wr.heap.size := HKU.out.size
                                                          go_region_held_law (fun w' => w'.cell? ⟨g, 7, none⟩ = some (.slice (some ⟨b2, f2, none⟩) t.arrays.length c7) ∧ w'.cell? ⟨b2, f2 + i * 2, none⟩ = some (.string x.1) ∧ w'.cell? ⟨b2, f2 + i * 2 + 1, none⟩ = some (.int .i64 x.2))
                                                            (first | (with_reducible assumption) | (with_reducible exact z) | (with_reducible exact z2) | (with_reducible exact z9))
                                                            (first
                                                              | (refine step_append_str _ rfl (.tmp 175) (.tmp 192) rfl (by simp [Act.eval]) HO2.out t2 (by simp [Act.eval]) (by (have := HZt2.out; have := HN.out; omega)) (Nat.le_trans hbase HK2.out.size) ?_; intro v9 W9 ho9 hk9; have HO9 := Lib.hid ho9; have HK9 := Lib.hid (HK2.out.trans hk9); have HX9 := Lib.hid (hk9.blk HX2.out (by decide)); have z9 := HZf.out _ HK9.out HX9.out; clear ho9 hk9)
                                                              | (go_simp; go_at_call 28; (with_reducible refine (number_any x.2 (by have := HIx.out.2; omega) _).mono ?_); rintro e W2 ⟨r2, rfl, hr, hb⟩; have HR2 := Lib.hid hr; clear hr; obtain ⟨t1, hzt1, qt1⟩ := catn u2 r2 10 11 21 HZu2.out HR2.out (by omega) (by omega); have HZt1 := Lib.hid hzt1; clear hzt1; obtain ⟨t2, hzt2, qt2⟩ := catn t1 ⟨#[10]⟩ 21 1 22 HZt1.out (by decide) (by omega) (by omega); have HZt2 := Lib.hid hzt2; clear hzt2; have HO2 := Lib.hid (OutB.below HOd.out hb); have HK2 := Lib.hid (HKd.out.trans (Kp.below hb)); have HX2 := Lib.hid (HXd.out.below hb HXd.out.lt); have z2 := HZf.out _ HK2.out HX2.out; clear hb)
                                                              | fail "an arm")
                                                          have HQ1 := Lib.hid (HQ.out.step HK9.out)
                                                          have HX1 := Lib.hid HX9.out
                                                          go_wp2_with fail
                                                          go_roundw
                                                          case rel => exact ⟨i + 1, n + t2.size, by omega, by go_num, Lib.hid ⟨HQ1.out, HX1.out, HO9.out, by have := HZt2.out; have := HN.out; omega⟩⟩
                                                          case measure => simp [intOf]; omega
                                                      · as_aux_lemma =>
                                                          have hlt2' : ¬ (i : Int) < ((t.arrays.length : Nat) : Int) := by omega
                                                          have hnn : n ≤ 66 + 2000000400 * j + 240 := by have := HN.out; have := Q7.out.2.1; omega
                                                          have HP4 := Lib.hid HQ.out
                                                          have HT4 := Lib.hid HX.out
                                                          have HO4 := Lib.hid HO.out
                                                          have HN4 := Lib.hid hnn
                                                          clear HQ HX HO HN HBl HKU hlt2 hi hnn hlen Q7
                                                          go_wp2_with fail
                                                          go_loopw [5, 14] (fun vo i wr => ∃ i1 n : Nat, i1 ≤ t.modes.length ∧ i = .int .i64 i1 ∧ Hid (PBx w.heap.size #[.slice A0 p.resources.length c0, .slice A1 p.shared.length c1, .slice (some ⟨b, f, none⟩) p.tasks.length c2] w wr ∧ Blk wr g 66 #[.string t.name, .int .i64 t.period, .int .i64 t.deadline, .int .i64 t.priority, .int .i64 t.jitter, .slice A5 t.inputs.length c5, .slice A6 t.vars.length c6, .slice A7 t.arrays.length c7, .slice A8 t.modes.length c8, .slice A9 t.claims.length c9, .slice A10 t.body.len c10] ∧ OutB w.heap.size vo n wr ∧ n ≤ 66 + 2000000400 * j + 240 + 50 * i1)) (fun _ i _ => t.modes.length - (intOf i).toNat)
                                                          case atStart => exact ⟨0, n, Nat.zero_le _, rfl, Lib.hid ⟨HP4.out, HT4.out, HO4.out, HN4.out⟩⟩
                                                          case round =>
                                                            as_aux_lemma =>
                                                              clear HP4 HT4 HO4 HN4
                                                              obtain ⟨i, n, hi, rfl, hR⟩ := hrel
                                                              have HQ := Lib.hid hR.out.1
                                                              have HX := Lib.hid hR.out.2.1
                                                              have HO := Lib.hid hR.out.2.2.1
                                                              have HN := Lib.hid hR.out.2.2.2
                                                              have HBl := Lib.hid (HQ.out.bel (Nat.le_refl _))
                                                              have HKU := Lib.hid HQ.out.kp
                                                              have y := HX.out.cell 8
                                                              have hlen := Q8.out.2.1
                                                              clear hR
                                                              by_cases hlt2 : i < t.modes.length
                                                              · as_aux_lemma =>
                                                                  have hlt2' : (i : Int) < ((t.modes.length : Nat) : Int) := by omega
                                                                  obtain ⟨b2, f2, x, rfl, hxm, hxc⟩ := lies_at mdCells 4 (fun _ => rfl) Q8.out.1 hlt2
                                                                  have HIx := Lib.hid (Q8.out.2.2 _ hxm)
                                                                  have HXs := Lib.hid (show x.1.size ≤ 3 by rw [HIx.out.1]; decide)
                                                                  have HYs := Lib.hid HIx.out.2.1.size.1
                                                                  have k0 := hxc _ HBl.out 0 _ rfl
                                                                  have k1 := hxc _ HBl.out 1 _ rfl
                                                                  have k2 := hxc _ HBl.out 2 _ rfl
                                                                  have k3 := hxc _ HBl.out 3 _ rfl
                                                                  rw [Nat.add_zero] at k0
                                                                  obtain ⟨u1, hzu1, qu1⟩ := catn ⟨#[109, 111, 100, 101, 32]⟩ x.1 5 3 8 (by decide) HXs.out (by omega) (by omega)
                                                                  have HZu1 := Lib.hid hzu1
                                                                  clear hzu1
                                                                  obtain ⟨u2, hzu2, qu2⟩ := catn u1 ⟨#[32]⟩ 8 1 9 HZu1.out (by decide) (by omega) (by omega)
                                                                  have HZu2 := Lib.hid hzu2
                                                                  clear hzu2
                                                                  obtain ⟨u3, hzu3, qu3⟩ := catn u2 x.2.1 9 3 12 HZu2.out HYs.out (by omega) (by omega)
                                                                  have HZu3 := Lib.hid hzu3
                                                                  clear hzu3
                                                                  obtain ⟨u4, hzu4, qu4⟩ := catn u3 ⟨#[32]⟩ 12 1 13 HZu3.out (by decide) (by omega) (by omega)
                                                                  have HZu4 := Lib.hid hzu4
                                                                  clear hzu4
                                                                  clear hxm hxc HBl
                                                                  have HTb := Lib.hid (HX.out.alloc (.cells #[.string x.1, .string x.2.1, .int .i64 x.2.2.1, .int .i64 x.2.2.2] 74))
                                                                  clear HX
                                                                  have HX := Lib.hid (Blk.new wr 74 #[.string x.1, .string x.2.1, .int .i64 x.2.2.1, .int .i64 x.2.2.2])
                                                                  have HU := Lib.hid (kp_alloc w.heap.size wr (.cells #[.string x.1, .string x.2.1, .int .i64 x.2.2.1, .int .i64 x.2.2.2] 74))
                                                                  replace HO := Lib.hid (OutB.below HO.out ((Below.refl wr.heap.size wr).alloc (Nat.le_refl _) (.cells #[.string x.1, .string x.2.1, .int .i64 x.2.2.1, .int .i64 x.2.2.2] 74)))
                                                                  replace HKU := Lib.hid (HKU.out.trans HU.out)
                                                                  go_wp2_with fail
                                                                  generalize wr.alloc (.cells #[.string x.1, .string x.2.1, .int .i64 x.2.2.1, .int .i64 x.2.2.2] 74) = WM at *
                                                                  generalize wr.heap.size = g2 at *
                                                                  clear y k0 k1 k2 k3
                                                                  have HZf := Lib.hid (fun (w' : World) (h : Kp w.heap.size WM w') (hx : Blk w' g2 74 #[.string x.1, .string x.2.1, .int .i64 x.2.2.1, .int .i64 x.2.2.2]) => (show w'.cell? ⟨g2, 0, none⟩ = some (.string x.1) ∧ w'.cell? ⟨g2, 1, none⟩ = some (.string x.2.1) ∧ w'.cell? ⟨g2, 2, none⟩ = some (.int .i64 x.2.2.1) ∧ w'.cell? ⟨g2, 3, none⟩ = some (.int .i64 x.2.2.2) from ⟨hx.cell 0, hx.cell 1, hx.cell 2, hx.cell 3⟩))
                                                                  have HKd := Lib.hid ((Kp.refl w.heap.size WM).drew)
                                                                  have HXd := Lib.hid (HX.out.below (w' := WM.drew) ⟨rfl, rfl, rfl, Nat.le_refl _, fun _ _ => rfl⟩ HX.out.lt)
                                                                  have HOd := Lib.hid (OutB.below HO.out (w' := WM.drew) ⟨rfl, rfl, rfl, Nat.le_refl _, fun _ _ => rfl⟩)
                                                                  have z := HZf.out _ HKd.out HXd.out
                                                                  have hbase : w.heap.size ≤ WM.heap.size := HKU.out.size
                                                                  go_region_held_law (fun w' => w'.cell? ⟨g2, 0, none⟩ = some (.string x.1) ∧ w'.cell? ⟨g2, 1, none⟩ = some (.string x.2.1) ∧ w'.cell? ⟨g2, 2, none⟩ = some (.int .i64 x.2.2.1) ∧ w'.cell? ⟨g2, 3, none⟩ = some (.int .i64 x.2.2.2))
                                                                    (first | (with_reducible assumption) | (with_reducible exact z) | (with_reducible exact z2) | (with_reducible exact z3) | (with_reducible exact z9))
                                                                    (first
                                                                      | (refine step_append_str _ rfl (.tmp 206) (.tmp 224) rfl (by simp [Act.eval]) HO3.out t4 (by simp [Act.eval]) (by (have := HZt4.out; have := HN.out; omega)) (Nat.le_trans hbase HK3.out.size) ?_; intro v9 W9 ho9 hk9; have HO9 := Lib.hid ho9; have HK9 := Lib.hid (HK3.out.trans hk9); have HX9 := Lib.hid (hk9.blk HX3.out (by decide)); have z9 := HZf.out _ HK9.out HX9.out; clear ho9 hk9)
                                                                      | (go_simp; go_at_call 28; (with_reducible refine (number_any x.2.2.1 (by have := HIx.out.2.2; omega) _).mono ?_); rintro e W2 ⟨r2, rfl, hr, hb⟩; have HR2 := Lib.hid hr; clear hr; obtain ⟨t1, hzt1, qt1⟩ := catn u4 r2 13 11 24 HZu4.out HR2.out (by omega) (by omega); have HZt1 := Lib.hid hzt1; clear hzt1; obtain ⟨t2, hzt2, qt2⟩ := catn t1 ⟨#[32]⟩ 24 1 25 HZt1.out (by decide) (by omega) (by omega); have HZt2 := Lib.hid hzt2; clear hzt2; have HO2 := Lib.hid (OutB.below HOd.out hb); have HK2 := Lib.hid (HKd.out.trans (Kp.below hb)); have HX2 := Lib.hid (HXd.out.below hb HXd.out.lt); have z2 := HZf.out _ HK2.out HX2.out; clear hb)
                                                                      | (go_simp; go_at_call 28; (with_reducible refine (number_any x.2.2.2 (by have := HIx.out.2.2; omega) _).mono ?_); rintro e W3 ⟨r3, rfl, hr, hb⟩; have HR3 := Lib.hid hr; clear hr; obtain ⟨t3, hzt3, qt3⟩ := catn t2 r3 25 11 36 HZt2.out HR3.out (by omega) (by omega); have HZt3 := Lib.hid hzt3; clear hzt3; obtain ⟨t4, hzt4, qt4⟩ := catn t3 ⟨#[10]⟩ 36 1 37 HZt3.out (by decide) (by omega) (by omega); have HZt4 := Lib.hid hzt4; clear hzt4; have HO3 := Lib.hid (OutB.below HO2.out hb); have HK3 := Lib.hid (HK2.out.trans (Kp.below hb)); have HX3 := Lib.hid (HX2.out.below hb HX2.out.lt); have z3 := HZf.out _ HK3.out HX3.out; clear hb)
                                                                      | fail "an arm")
                                                                  have HQ1 := Lib.hid (HQ.out.step (HU.out.trans HK9.out))
                                                                  have HX1 := Lib.hid (HK9.out.blk HTb.out (by decide))
                                                                  go_wp2_with fail
                                                                  go_roundw
                                                                  case rel => exact ⟨i + 1, n + t4.size, by omega, by go_num, Lib.hid ⟨HQ1.out, HX1.out, HO9.out, by have := HZt4.out; have := HN.out; omega⟩⟩
                                                                  case measure => simp [intOf]; omega
                                                              · as_aux_lemma =>
                                                                  have hlt2' : ¬ (i : Int) < ((t.modes.length : Nat) : Int) := by omega
                                                                  have hnn : n ≤ 66 + 2000000400 * j + 290 := by have := HN.out; have := Q8.out.2.1; omega
                                                                  have HP4 := Lib.hid HQ.out
                                                                  have HT4 := Lib.hid HX.out
                                                                  have HO4 := Lib.hid HO.out
                                                                  have HN4 := Lib.hid hnn
                                                                  clear HQ HX HO HN HBl HKU hlt2 hi hnn hlen Q8
                                                                  go_wp2_with fail
                                                                  go_loopw [5, 16] (fun vo i wr => ∃ i1 n : Nat, i1 ≤ t.claims.length ∧ i = .int .i64 i1 ∧ Hid (PBx w.heap.size #[.slice A0 p.resources.length c0, .slice A1 p.shared.length c1, .slice (some ⟨b, f, none⟩) p.tasks.length c2] w wr ∧ Blk wr g 66 #[.string t.name, .int .i64 t.period, .int .i64 t.deadline, .int .i64 t.priority, .int .i64 t.jitter, .slice A5 t.inputs.length c5, .slice A6 t.vars.length c6, .slice A7 t.arrays.length c7, .slice A8 t.modes.length c8, .slice A9 t.claims.length c9, .slice A10 t.body.len c10] ∧ OutB w.heap.size vo n wr ∧ n ≤ 66 + 2000000400 * j + 290 + 40 * i1)) (fun _ i _ => t.claims.length - (intOf i).toNat)
                                                                  case atStart => exact ⟨0, n, Nat.zero_le _, rfl, Lib.hid ⟨HP4.out, HT4.out, HO4.out, HN4.out⟩⟩
                                                                  case round =>
                                                                    as_aux_lemma =>
                                                                      clear HP4 HT4 HO4 HN4
                                                                      obtain ⟨i, n, hi, rfl, hR⟩ := hrel
                                                                      have HQ := Lib.hid hR.out.1
                                                                      have HX := Lib.hid hR.out.2.1
                                                                      have HO := Lib.hid hR.out.2.2.1
                                                                      have HN := Lib.hid hR.out.2.2.2
                                                                      have HBl := Lib.hid (HQ.out.bel (Nat.le_refl _))
                                                                      have HKU := Lib.hid HQ.out.kp
                                                                      have y := HX.out.cell 9
                                                                      have hlen := Q9.out.2.1
                                                                      clear hR
                                                                      by_cases hlt2 : i < t.claims.length
                                                                      · as_aux_lemma =>
                                                                          have hlt2' : (i : Int) < ((t.claims.length : Nat) : Int) := by omega
                                                                          obtain ⟨b2, f2, x, rfl, hxm, hxc⟩ := lies_at clCells 2 (fun _ => rfl) Q9.out.1 hlt2
                                                                          have HIx := Lib.hid (Q9.out.2.2 _ hxm)
                                                                          have HE := Lib.hid (fun (W : World) (hb : Below w.heap.size w W) => (show W.cell? ⟨b2, f2 + i * 2, none⟩ = some (.int .i64 x.1) ∧ W.cell? ⟨b2, f2 + i * 2 + 1, none⟩ = some (.int .i64 x.2) from ⟨(by have h := hxc W hb 0 _ rfl; rwa [Nat.add_zero] at h), hxc W hb 1 _ rfl⟩))
                                                                          clear hxm hxc HBl
                                                                          go_wp2_with fail
                                                                          clear y
                                                                          have HZf := Lib.hid (fun (w' : World) (h : Kp w.heap.size wr w') (hx : Blk w' g 66 #[.string t.name, .int .i64 t.period, .int .i64 t.deadline, .int .i64 t.priority, .int .i64 t.jitter, .slice A5 t.inputs.length c5, .slice A6 t.vars.length c6, .slice A7 t.arrays.length c7, .slice A8 t.modes.length c8, .slice (some ⟨b2, f2, none⟩) t.claims.length c9, .slice A10 t.body.len c10]) => (show w'.cell? ⟨g, 9, none⟩ = some (.slice (some ⟨b2, f2, none⟩) t.claims.length c9) ∧ w'.cell? ⟨b2, f2 + i * 2, none⟩ = some (.int .i64 x.1) ∧ w'.cell? ⟨b2, f2 + i * 2 + 1, none⟩ = some (.int .i64 x.2) from ⟨hx.cell 9, HE.out w' ((HKU.out.trans h).toBelow (Nat.le_refl _))⟩))
                                                                          have HKd := Lib.hid ((Kp.refl w.heap.size wr).drew)
                                                                          have HXd := Lib.hid (HX.out.below (w' := wr.drew) ⟨rfl, rfl, rfl, Nat.le_refl _, fun _ _ => rfl⟩ HX.out.lt)
                                                                          have HOd := Lib.hid (OutB.below HO.out (w' := wr.drew) ⟨rfl, rfl, rfl, Nat.le_refl _, fun _ _ => rfl⟩)
                                                                          have z := HZf.out _ HKd.out HXd.out
                                                                          have hbase : w.heap.size ≤ wr.heap.size := HKU.out.size
                                                                          go_region_held_law (fun w' => w'.cell? ⟨g, 9, none⟩ = some (.slice (some ⟨b2, f2, none⟩) t.claims.length c9) ∧ w'.cell? ⟨b2, f2 + i * 2, none⟩ = some (.int .i64 x.1) ∧ w'.cell? ⟨b2, f2 + i * 2 + 1, none⟩ = some (.int .i64 x.2))
                                                                            (first | (with_reducible assumption) | (with_reducible exact z) | (with_reducible exact z2) | (with_reducible exact z3) | (with_reducible exact z9))
                                                                            (first
                                                                              | (refine step_append_str _ rfl (.tmp 233) (.tmp 251) rfl (by simp [Act.eval]) HO3.out t4 (by simp [Act.eval]) (by (have := HZt4.out; have := HN.out; omega)) (Nat.le_trans hbase HK3.out.size) ?_; intro v9 W9 ho9 hk9; have HO9 := Lib.hid ho9; have HK9 := Lib.hid (HK3.out.trans hk9); have HX9 := Lib.hid (hk9.blk HX3.out (by decide)); have z9 := HZf.out _ HK9.out HX9.out; clear ho9 hk9)
                                                                              | (go_simp; go_at_call 28; (with_reducible refine (number_any x.1 (by have := HIx.out; omega) _).mono ?_); rintro e W2 ⟨r2, rfl, hr, hb⟩; have HR2 := Lib.hid hr; clear hr; obtain ⟨t1, hzt1, qt1⟩ := catn ⟨#[110, 101, 118, 101, 114, 32]⟩ r2 6 11 17 (by decide) HR2.out (by omega) (by omega); have HZt1 := Lib.hid hzt1; clear hzt1; obtain ⟨t2, hzt2, qt2⟩ := catn t1 ⟨#[32]⟩ 17 1 18 HZt1.out (by decide) (by omega) (by omega); have HZt2 := Lib.hid hzt2; clear hzt2; have HO2 := Lib.hid (OutB.below HOd.out hb); have HK2 := Lib.hid (HKd.out.trans (Kp.below hb)); have HX2 := Lib.hid (HXd.out.below hb HXd.out.lt); have z2 := HZf.out _ HK2.out HX2.out; clear hb)
                                                                              | (go_simp; go_at_call 28; (with_reducible refine (number_any x.2 (by have := HIx.out; omega) _).mono ?_); rintro e W3 ⟨r3, rfl, hr, hb⟩; have HR3 := Lib.hid hr; clear hr; obtain ⟨t3, hzt3, qt3⟩ := catn t2 r3 18 11 29 HZt2.out HR3.out (by omega) (by omega); have HZt3 := Lib.hid hzt3; clear hzt3; obtain ⟨t4, hzt4, qt4⟩ := catn t3 ⟨#[10]⟩ 29 1 30 HZt3.out (by decide) (by omega) (by omega); have HZt4 := Lib.hid hzt4; clear hzt4; have HO3 := Lib.hid (OutB.below HO2.out hb); have HK3 := Lib.hid (HK2.out.trans (Kp.below hb)); have HX3 := Lib.hid (HX2.out.below hb HX2.out.lt); have z3 := HZf.out _ HK3.out HX3.out; clear hb)
                                                                              | fail "an arm")
                                                                          have HQ1 := Lib.hid (HQ.out.step HK9.out)
                                                                          have HX1 := Lib.hid HX9.out
                                                                          go_wp2_with fail
                                                                          go_roundw
                                                                          case rel => exact ⟨i + 1, n + t4.size, by omega, by go_num, Lib.hid ⟨HQ1.out, HX1.out, HO9.out, by have := HZt4.out; have := HN.out; omega⟩⟩
                                                                          case measure => simp [intOf]; omega
                                                                      · as_aux_lemma =>
                                                                          have hlt2' : ¬ (i : Int) < ((t.claims.length : Nat) : Int) := by omega
                                                                          have hnn : n ≤ 66 + 2000000400 * j + 330 := by have := HN.out; have := Q9.out.2.1; omega
                                                                          have HP4 := Lib.hid HQ.out
                                                                          have HT4 := Lib.hid HX.out
                                                                          have HO4 := Lib.hid HO.out
                                                                          have HN4 := Lib.hid hnn
                                                                          clear HQ HX HO HN HBl HKU hlt2 hi hnn hlen Q9
                                                                          have yb := HT4.out.cell 10
                                                                          go_wp2_with (at_builtin; refine wpList_append_str rfl (.tmp 253) (.const (.string ⟨#[98, 111, 100, 121, 10]⟩)) rfl rfl HO4.out ⟨#[98, 111, 100, 121, 10]⟩ rfl (by have := HN4.out; show n + 5 ≤ 1000000000000; omega) HP4.out.kp.size ?_; intro v5 W5 ho5 hk5; have HO5 := Lib.hid (show OutB w.heap.size v5 (n + 5) W5 from ho5); have HP5 := Lib.hid (HP4.out.step hk5); have HT5 := Lib.hid (hk5.blk HT4.out (by decide)); have yc := HT5.out.cell 10; clear ho5 hk5 yb HP4 HT4 HO4)
                                                                          have hcn := cnt_body Q10.out.2.1 Q10.out.2.2.1 (show t.body.len ≤ 12 by have := Q10.out.2.2.2; omega)
                                                                          have HCn := Lib.hid hcn
                                                                          have HBd := Lib.hid (body_any w.heap.size t.body.height t.body A10 c10 (fun b => b < w.heap.size) W5 v5 (n + 5) ⟨#[32, 32]⟩ rfl Q10.out.2.1 (by have := Q10.out.2.2.2; unfold maxLen; omega) (sts_kp Q10.out.1 (fun b h => h) HP5.out.kp) (fun b h => h) HP5.out.kp.size HO5.out (by have := HN4.out; omega) (by have := Q10.out.2.2.1; show 2 + 2 * t.body.height ≤ 100; omega))
                                                                          clear hcn
                                                                          go_wp2_with fail
                                                                          refine HBd.out.mono ?_
                                                                          rintro e W6 ⟨v6, n6, rfl, ho, hn6, hk⟩
                                                                          have HO6 := Lib.hid ho
                                                                          have HN6 := Lib.hid (show n6 ≤ 66 + 2000000400 * j + 335 + 2000000000 by have := HN4.out; have := HCn.out; omega)
                                                                          have HP6 := Lib.hid (HP5.out.step hk)
                                                                          clear ho hn6 hk yc HP5 HT5 HO5 HBd
                                                                          go_wp2_with (at_builtin; refine wpList_append_str rfl (.tmp 259) (.const (.string ⟨#[101, 110, 100, 10]⟩)) rfl rfl HO6.out ⟨#[101, 110, 100, 10]⟩ rfl (by have := HN6.out; show n6 + 4 ≤ 1000000000000; omega) HP6.out.kp.size ?_; intro v7 W7 ho7 hk7; have HO7 := Lib.hid (show OutB w.heap.size v7 (n6 + 4) W7 from ho7); have HP7 := Lib.hid (HP6.out.step hk7); clear ho7 hk7 HP6 HO6)
                                                                          go_roundw
                                                                          case rel => exact ⟨j + 1, n6 + 4, by omega, by go_num, Lib.hid ⟨HP7.out, HO7.out, by have := HN6.out; omega⟩⟩
                                                                          case measure => simp [intOf]; omega
                              · as_aux_lemma =>
                                  have hlt' : ¬ (j : Int) < (p.tasks.length : Nat) := by omega
                                  obtain ⟨A, c, rfl, s, hs, hcv⟩ := conv_out HO.out
                                  have HS := Lib.hid hs
                                  have HBe := Lib.hid (HQ.out.bel (Nat.le_refl _))
                                  clear hlt hs
                                  by_cases hbig : 8192 < n
                                  · have hbig' : (8192 : Int) < (n : Nat) := by omega
                                    go_wp2_with fail
                                    go_ret2
                                    exact ⟨⟨#[]⟩, ⟨4, rfl⟩, Nat.zero_le _, HBe.out⟩
                                  · have hbig' : ¬ (8192 : Int) < (n : Nat) := by omega
                                    go_wp2_with fail
                                    go_ret2
                                    exact ⟨s, ⟨0, rfl⟩, by have := HS.out; omega, HBe.out⟩
end Go.Proofs.YtbppfhlpielpcaaDoor
