/- The generator's programs. -/
import Derived.Test.YtbppfhlpielpcaaDoorGnPgq
import Derived.Deep.RegionLaw
import Derived.Deep.DeepCutAuto
import Derived.Deep.RegionHeldLaw
namespace Go.Proofs.YtbppfhlpielpcaaDoor
open Go.RowKit
set_option linter.unusedVariables false
abbrev zTk' : Value := .agg #[.string ⟨#[]⟩, .int .i64 0, .int .i64 0, .int .i64 0, .int .i64 0, .slice none 0 0, .slice none 0 0, .slice none 0 0, .slice none 0 0, .slice none 0 0, .slice none 0 0]
theorem Tryd.infoTk : (Tryd.prog.info? 66).map (fun i => (i.zero, i.size, i.bytes)) = some (some zTk', 11, 192) := by kernel_rfl
theorem one_byteP (c : Int) : ∀ w : World, (convert 36 9 (.slice (some ⟨w.heap.size, 0, none⟩) 1 1)).run Tryd.prog (w.alloc (.cells #[.int .u8 c] 5)) = .ok (.string ⟨#[UInt8.ofNat c.toNat]⟩) (w.alloc (.cells #[.int .u8 c] 5)) := by
  intro w
  rw [run_convert_bytes_arg (w.alloc (.cells #[.int .u8 c] 5)) 36 5 Tryd.underlying36 Tryd.underlying5 w.heap.size 0 1 1 [c] rfl (fun i hi => by
    have : i = 0 := by omega
    subst this
    simp) 9 Tryd.underlying9]
  rfl
theorem conv_afterP (w w1 : World) (c : Int) (hb : w1.heap[w.heap.size]? = (w.alloc (.cells #[.int .u8 c] 5)).heap[w.heap.size]?) :
    (convert 36 9 (.slice (some ⟨w.heap.size, 0, none⟩) 1 1)).run Tryd.prog w1 = .ok (.string ⟨#[UInt8.ofNat c.toNat]⟩) w1 := by
  rw [run_convert_bytes_arg w1 36 5 Tryd.underlying36 Tryd.underlying5 w.heap.size 0 1 1 [c] rfl (fun i hi => by
    have : i = 0 := by omega
    subst this
    rw [World.cell?_of_block hb]
    simp) 9 Tryd.underlying9]
  rfl
theorem catP (a b : ByteArray) (h : a.size + b.size ≤ 100000) : ∀ W : World, (Op.stringOp .add a b).run Tryd.prog W = .ok (.string (a ++ b)) W := fun W => run_string_add_sum W a b (by omega)
theorem RowAtP.lies {n D : Nat} {W : World} {r : RowR} (h : RowAtP n W r) (hD : D < n) : Lies W (fun b => b ≠ D) r.1 r.2.1 r.2.2.1 r.2.2.2.1 r.2.2.2.2 :=
  Lies.keep (S := SxP n W) h (Nat.le_refl _) fun b hS _ => ⟨by have := hS.1; omega, fun _ => rfl⟩
set_option maxRecDepth 100000 in
set_option maxHeartbeats 6000000 in
theorem programs_any (D : Nat) (v : Value) (zs : List Int) (tasks : Nat) (weight stmts : Int) (w : World) (hd : Deck w v zs D) (ht : 1 ≤ tasks ∧ tasks ≤ 6) (hwt : 0 ≤ weight ∧ weight ≤ 1000000) (hst : 0 ≤ stmts ∧ stmts ≤ 100) :
    Calls Tryd.prog 16 #[.pointer (some ⟨D, 0, none⟩), .int .i64 tasks, .int .i64 weight, .int .i64 stmts] w fun e w' => PgPost D v zs w e w' := by
  have H0 := Lib.hid (TG.start hd)
  obtain ⟨wt0, wt1⟩ := hwt
  obtain ⟨st0, st1⟩ := hst
  obtain ⟨tk0, tk1⟩ := ht
  obtain ⟨iS, hi0, hz0, hz1, hz2⟩ := info_parts Tryd.infoStr
  have HIS := Lib.hid (And.intro hi0 (And.intro hz0 (And.intro hz1 hz2)))
  clear hi0 hz0 hz1 hz2 hd
  go_enter Tryd.func16, Tryd.ntmps16
  go_wp2_with fail
  refine (H0.out.next 3 (by omega)).mono ?_
  rintro e W1 ⟨r, rfl, hr, h1⟩
  obtain ⟨q0, q1⟩ := hr.rngP (by omega)
  have H1 := Lib.hid h1
  clear h1 H0 hr
  generalize hP : w.heap.size + 1 = P at *
  generalize hR : w.heap.size = R at *
  have HPR := Lib.hid (And.intro hP hR)
  clear hP hR
  go_wp2_with fail
  go_loopw [10] (fun i wr => ∃ (z : Int) (l : List ByteArray) (v0 : Value), i = .int .i64 z ∧ 0 ≤ z ∧ z ≤ 2 ∧ Hid (l.length + z ≤ 2 ∧ (∀ x ∈ l, Nm x) ∧ TGr (⟨D, R, P, v, zs, w⟩ : Px) #[v0, nilV, nilV] l v0 wr)) (fun i _ => (intOf i).toNat)
  case atStart => exact ⟨r, [], nilV, rfl, q0, by omega, Lib.hid ⟨by simp; omega, (fun x hx => by cases hx), ⟨H1.out, World.ownsRow_nil _ _ _ _⟩⟩⟩
  case round =>
    clear H1
    obtain ⟨z, l, v0, rfl, z0, z2, hR⟩ := hrel
    have HS := Lib.hid hR.out.2.2
    have HL := Lib.hid (And.intro hR.out.1 hR.out.2.1)
    clear hR
    have c0 : wr.drew.cell? ⟨P, 0, none⟩ = some v0 := HS.out.p.tb.cell 0
    have c0a : ∀ o, (wr.alloc o).cell? ⟨P, 0, none⟩ = some v0 := fun o => (HS.out.alloc o).p.tb.cell 0
    have c0b : ∀ o o', ((wr.alloc o).alloc o').cell? ⟨P, 0, none⟩ = some v0 := fun o o' => ((HS.out.alloc o).alloc o').p.tb.cell 0
    have c0c : wr.cell? ⟨P, 0, none⟩ = some v0 := HS.out.p.tb.cell 0
    have hz : z = 0 ∨ z = 1 ∨ z = 2 := by omega
    rcases hz with rfl | rfl | rfl
    · obtain ⟨A0, d0, rfl, hrow0⟩ := rowp_own HS.out.own (by decide) (by simp)
      have HG := Lib.hid (HS.out.p.push hrow0)
      clear c0 c0a c0b c0c HS hrow0
      have c0 : wr.cell? ⟨P, 0, none⟩ = some (.slice A0 l.length d0) := HG.out.tb.cell 0
      go_upto_region 6 with fail
      go_cut [36] from 12 (fun s wx => ∃ b : Bool, s = .bool b ∧ (b = true → 0 < l.length) ∧ Hid (TG (⟨D, R, P, v, zs, w⟩ : Px) #[.slice A0 l.length d0, nilV, nilV] [(A0, l.length, d0, 1, l.map Value.string)] wx))
      case first =>
        by_cases hl : 0 < l.length
        · have hl' : (0 : Int) < l.length := by omega
          go_wp2_with fail
          refine (HG.out.next 2 (by omega)).mono ?_
          rintro e W2 ⟨q, rfl, hq, hp⟩
          have HP2 := Lib.hid hp
          clear hp hq
          go_wp2_with fail
          go_meet
          case rel => exact ⟨_, rfl, fun _ => hl, HP2⟩
        · have hl0 : l.length = 0 := by omega
          rw [hl0] at c0
          go_wp2_with fail
          go_meet
          case rel => exact ⟨false, rfl, (fun h => by cases h), HG⟩
      case rest =>
        obtain ⟨bt, rfl, hbt, HG2⟩ := hcut
        clear HG c0
        go_upto_if 36 with fail
        go_cut [] from 12 (fun wx => ∃ shs : List (ByteArray × Int × ByteArray), ∃ A1 d1, Hid ((shs.length ≤ 1 ∧ ∀ x ∈ shs, Nm x.1 ∧ (1 ≤ x.2.1 ∧ x.2.1 ≤ 8) ∧ Nm x.2.2) ∧ TG (⟨D, R, P, v, zs, w⟩ : Px) #[.slice A0 l.length d0, .slice A1 shs.length d1, nilV] ((A1, shs.length, d1, 3, shs.flatMap shCells) :: [(A0, l.length, d0, 1, l.map Value.string)]) wx))
        case first =>
          cases bt
          · go_wp2_with fail
            go_meet
            case rel => exact ⟨[], none, 0, Lib.hid ⟨⟨by simp, fun x hx => by cases hx⟩, HG2.out.push (r := (none, 0, 0, 3, [])) Lies.nil⟩⟩
          · have hl := hbt rfl
            rcases l with _ | ⟨x0, l⟩
            · simp at hl
            obtain ⟨b0, f0, rfl, _⟩ := RowAtP.cells (HG2.out.row (A0, (x0 :: l).length, d0, 1, (x0 :: l).map Value.string) (by simp)) hl
            have HNx := Lib.hid (HL.out.2 x0 (by simp))
            obtain ⟨iH, hi0, hz0, hz1, hz2⟩ := info_parts Tryd.infoSh
            have HIH := Lib.hid (And.intro hi0 (And.intro hz0 (And.intro hz1 hz2)))
            clear hi0 hz0 hz1 hz2
            have HZ := Lib.hid (fun (W : World) (u1 : Value) (rs : List RowR) (h : TG (⟨D, R, P, v, zs, w⟩ : Px) #[.slice (some ⟨b0, f0, none⟩) (l.length + 1) d0, u1, nilV] rs W) (hr : (some ⟨b0, f0, none⟩, (x0 :: l).length, d0, 1, (x0 :: l).map Value.string) ∈ rs) => And.intro (show W.cell? ⟨P, 0, none⟩ = some (.slice (some ⟨b0, f0, none⟩) (l.length + 1) d0) from h.tb.cell 0) (TG.first (n := 0) h hr))
            have HG3 := Lib.hid (show TG (⟨D, R, P, v, zs, w⟩ : Px) #[.slice (some ⟨b0, f0, none⟩) (l.length + 1) d0, nilV, nilV] [(some ⟨b0, f0, none⟩, (x0 :: l).length, d0, 1, (x0 :: l).map Value.string)] wc from HG2.out)
            clear HG2 hbt hl
            have p1 : wc.drew.cell? ⟨P, 1, none⟩ = some nilV := HG3.out.tb.cell 1
            have p1' : wc.cell? ⟨P, 1, none⟩ = some nilV := HG3.out.tb.cell 1
            have z := HZ.out _ _ _ HG3.out.drew (by simp)
            have hll : ((l.length + 1 : Nat) : Int) ≤ 2 := by have := HL.out.1; simp at this; omega
            go_upto_region 7 with fail
            obtain ⟨za, zb⟩ := z
            have zc : wc.cell? ⟨P, 0, none⟩ = some (.slice (some ⟨b0, f0, none⟩) (l.length + 1) d0) := za
            have zd : wc.cell? ⟨b0, f0, none⟩ = some (.string x0) := zb
            go_region_law (first
              | (refine step_append_lies _ rfl (.tmp 38) (.tmp 49) 29 rfl _ 70 iH _ 3 40 Tryd.underlying29 HIH.out.1 HIH.out.2.1 HIH.out.2.2.1 HIH.out.2.2.2 rfl (by decide) nilV 0 [] (by simp [Act.eval]) (World.ownsRow_nil _ w.heap.size _ _) ⟨W2.heap.size, 0, none⟩ 1 1 (shCells (⟨#[98, 117, 102]⟩, IntKind.i64.wrap (2 ^ m), x0)) (by simp [Act.eval]) rfl (blk_news (cs := #[.string ⟨#[98, 117, 102]⟩, .int .i64 (IntKind.i64.wrap (2 ^ m)), .string x0]) (Blk.new W2 70 _)) (by intro u hu; simp [shCells] at hu; rcases hu with rfl | rfl | rfl <;> rfl) (by omega) (by unfold maxLen; omega) (by omega) (by have h := HG4.out.gen.size; simp only at h; simp; omega) _ rfl ?_; intro g cap W3 hown hgrow _ _; have HG5 := Lib.hid ((HG4.out.alloc (.cells #[.string ⟨#[98, 117, 102]⟩, .int .i64 (IntKind.i64.wrap (2 ^ m)), .string x0] 70)).grown (k := 0) (World.ownsRow_nil _ _ 70 3) (by decide) hgrow (fun r hr b f e => by simp [Value.ownBlock])); have r1 : W3.cell? ⟨P, 1, none⟩ = some nilV := HG5.out.tb.cell 1; have r2 : W3.frozen? ⟨P, 1, none⟩ = false := HG5.out.tb.frozen 1; have HOw := Lib.hid hown; clear hown hgrow)
              | (go_simp; go_at_call 30; refine (HG3.out.drew.next 4 (by omega)).mono ?_; rintro e W2 ⟨q, rfl, hq, hp⟩; obtain ⟨m0, m1⟩ := hq.rngP (by omega); obtain ⟨m, rfl⟩ := Int.eq_ofNat_of_zero_le m0; have qm : IntKind.u64.wrap (m : Int) = m := IntWalk.u64_in _ (by omega); have qn : min m 64 = m := (by omega); have HG4 := Lib.hid hp; obtain ⟨y0, y1⟩ := HZ.out _ _ _ hp (by simp); have p2 : W2.cell? ⟨P, 1, none⟩ = some nilV := hp.tb.cell 1; have p3 : ∀ o, (W2.alloc o).cell? ⟨P, 1, none⟩ = some nilV := fun o => (hp.alloc o).tb.cell 1; clear hp hq))
            all_goals
              have hm8 := pow_8 m (by omega)
              obtain ⟨A1, d1, eA, hrow⟩ := rowp_own HOw.out (by decide) (by simp [shCells])
              injection eA with e1 e2 e3
              subst e1 e3
              have HG6 := Lib.hid ((HG5.out.push hrow).setT 1 (.slice (some ⟨g, 0, none⟩) 1 cap))
              clear hrow e2
              go_wp2_with fail
              go_meet
              case rel => exact ⟨[(⟨#[98, 117, 102]⟩, IntKind.i64.wrap (2 ^ m), x0)], some ⟨g, 0, none⟩, cap, Lib.hid ⟨⟨by simp, fun x hx => by
                simp only [List.mem_cons, List.not_mem_nil, or_false] at hx
                subst hx
                exact ⟨by unfold Nm nameList; simp, hm8, HNx.out⟩⟩, HG6.out⟩⟩
        case rest =>
          obtain ⟨shs, A1, d1, HG3⟩ := hcut
          clear HG2 hbt
          obtain ⟨iT, hi0, hz0, hz1, hz2⟩ := info_parts Tryd.infoTk
          have HIT := Lib.hid (And.intro hi0 (And.intro hz0 (And.intro hz1 hz2)))
          clear hi0 hz0 hz1 hz2
          obtain ⟨hPR1, hPR2⟩ := HPR.out
          go_wp2_with fail
          go_loopw [11] (fun i wr => ∃ (k : Nat) (tl : List Tsk) (xs : List Value) (v2 : Value), k ≤ tasks ∧ i = .int .i64 k ∧ Hid (tl.length = k ∧ (∀ t ∈ tl, t.Ok) ∧ TGt (⟨D, R, P, v, zs, w⟩ : Px) #[.slice A0 l.length d0, .slice A1 shs.length d1, v2] [(A1, shs.length, d1, 3, shs.flatMap shCells), (A0, l.length, d0, 1, l.map Value.string)] tl xs v2 wr)) (fun i _ => tasks - (intOf i).toNat)
          case atStart => exact ⟨0, [], [], nilV, Nat.zero_le _, rfl, Lib.hid ⟨rfl, (fun t ht => by cases ht), ⟨HG3.out.2, World.ownsRow_nil _ _ _ _, rfl⟩⟩⟩
          case round =>
            obtain ⟨k, tl, xs, v2, hk, rfl, HR⟩ := hrel
            by_cases hk2 : k < tasks
            · have HT := Lib.hid HR.out.2.2
              have HO := Lib.hid (And.intro HR.out.1 HR.out.2.1)
              clear HR
              have k6 : k < 6 := by omega
              have kz : ((k : Nat) : Int) < (tasks : Int) := by omega
              have w97 : IntKind.i64.wrap (97 + (k : Int)) = 97 + (k : Int) := IntWalk.i64_in _ (by omega)
              have w8 : IntKind.u8.wrap (97 + (k : Int)) = 97 + (k : Int) := by simp [IntKind.wrap, IntKind.bits, IntKind.signed]; omega
              have hq := (HT.out.alloc (.cells #[.int .u8 (97 + (k : Int))] 5)).drew
              have p1 : wr.drew.cell? ⟨P, 1, none⟩ = some (.slice A1 shs.length d1) := HT.out.p.tb.cell 1
              have p2 : wr.drew.cell? ⟨P, 2, none⟩ = some v2 := HT.out.p.tb.cell 2
              have p1a : ∀ o, (wr.alloc o).cell? ⟨P, 1, none⟩ = some (.slice A1 shs.length d1) := fun o => (HT.out.alloc o).p.tb.cell 1
              have p2a : ∀ o, (wr.alloc o).cell? ⟨P, 2, none⟩ = some v2 := fun o => (HT.out.alloc o).p.tb.cell 2
              have hc := one_byteP (97 + (k : Int))
              have hc2 := fun W : World => conv_afterP W (W.alloc (.cells #[.int .u8 (97 + (k : Int))] 5)).drew (97 + (k : Int)) rfl
              have hcat := catP ⟨#[116]⟩ ⟨#[UInt8.ofNat (97 + (k : Int)).toNat]⟩ (by show 1 + 1 ≤ 100000; omega)
              have hnm : (⟨#[116]⟩ ++ ⟨#[UInt8.ofNat (97 + (k : Int)).toNat]⟩ : ByteArray) = ⟨#[116, UInt8.ofNat (97 + k)]⟩ := by
                have e : (97 + (k : Int)).toNat = 97 + k := by omega
                rw [e]; rfl
              rw [hnm] at hcat
              generalize hNM : (⟨#[116, UInt8.ofNat (97 + k)]⟩ : ByteArray) = nm at *
              have HC := Lib.hid (task_any D v zs nm A1 d1 shs weight stmts _ hq.p.deck ⟨k, k6, hNM.symm⟩ (RowAtP.lies (hq.p.row (A1, shs.length, d1, 3, shs.flatMap shCells) (by simp)) hq.p.num.1) HG3.out.1 ⟨wt0, wt1⟩ ⟨st0, st1⟩)
              have HQ := Lib.hid hq
              have HKK := Lib.hid (And.intro hk (And.intro hk2 k6))
              clear hq hNM hnm
              go_upto_region 11 with fail
              go_region_law (first
                | (refine step_append_lies _ rfl (.tmp 58) (.tmp 71) 30 rfl _ 66 iT _ 11 192 Tryd.underlying30 HIT.out.1 HIT.out.2.1 HIT.out.2.2.1 HIT.out.2.2.2 rfl (by decide) v2 tl.length xs (by simp [Act.eval]) (HT2.out.alloc (.cells #[.string t.name, .int .i64 t.period, .int .i64 t.deadline, .int .i64 t.priority, .int .i64 t.jitter, .slice A5 t.inputs.length c5, .slice A6 t.vars.length c6, .slice A7 t.arrays.length c7, .slice A8 t.modes.length c8, .slice A9 t.claims.length c9, .slice A10 t.body.len c10] 66)).own ⟨W2.heap.size, 0, none⟩ 1 1 [.string t.name, .int .i64 t.period, .int .i64 t.deadline, .int .i64 t.priority, .int .i64 t.jitter, .slice A5 t.inputs.length c5, .slice A6 t.vars.length c6, .slice A7 t.arrays.length c7, .slice A8 t.modes.length c8, .slice A9 t.claims.length c9, .slice A10 t.body.len c10] (by simp [Act.eval]) rfl (blk_news (cs := #[.string t.name, .int .i64 t.period, .int .i64 t.deadline, .int .i64 t.priority, .int .i64 t.jitter, .slice A5 t.inputs.length c5, .slice A6 t.vars.length c6, .slice A7 t.arrays.length c7, .slice A8 t.modes.length c8, .slice A9 t.claims.length c9, .slice A10 t.body.len c10]) (Blk.new W2 66 _)) (by intro u hu; simp only [List.mem_cons, List.not_mem_nil, or_false] at hu; rcases hu with rfl | rfl | rfl | rfl | rfl | rfl | rfl | rfl | rfl | rfl | rfl <;> rfl) (by omega) (by have := HO.out.1; have := HKK.out.2.2; unfold maxLen; omega) (by have := HO.out.1; have := HKK.out.2.2; omega) (by have h := HT2.out.p.gen.size; simp only at h; simp; omega) _ rfl ?_; intro g cap W3 hown hgrow hgo hgl; have HS3 := Lib.hid (TGt.app (HT2.out.alloc (.cells #[.string t.name, .int .i64 t.period, .int .i64 t.deadline, .int .i64 t.priority, .int .i64 t.jitter, .slice A5 t.inputs.length c5, .slice A6 t.vars.length c6, .slice A7 t.arrays.length c7, .slice A8 t.modes.length c8, .slice A9 t.claims.length c9, .slice A10 t.body.len c10] 66)) (t := t) (ys := [.string t.name, .int .i64 t.period, .int .i64 t.deadline, .int .i64 t.priority, .int .i64 t.jitter, .slice A5 t.inputs.length c5, .slice A6 t.vars.length c6, .slice A7 t.arrays.length c7, .slice A8 t.modes.length c8, .slice A9 t.claims.length c9, .slice A10 t.body.len c10]) HR2.out hown hgrow hgo); have q2 : W3.cell? ⟨P, 2, none⟩ = some v2 := HS3.out.p.tb.cell 2; have q2f : W3.frozen? ⟨P, 2, none⟩ = false := HS3.out.p.tb.frozen 2; clear hown hgrow hgo hgl)
                | (go_simp; go_at_call 31; refine HC.out.mono ?_; rintro e W2 ⟨t, ys, rfl, hok, htn, hrow, hd2, hg2⟩; obtain ⟨hT2, hr2⟩ := TGt.call HQ.out hrow hd2 hg2; obtain ⟨A5, c5, A6, c6, A7, c7, A8, c8, A9, c9, A10, c10, rfl, hrr⟩ := id hr2; have HOK := Lib.hid hok; have HT2 := Lib.hid hT2; have HR2 := Lib.hid (Tsk.Row.keep hr2 (w' := W2.alloc (.cells #[.string t.name, .int .i64 t.period, .int .i64 t.deadline, .int .i64 t.priority, .int .i64 t.jitter, .slice A5 t.inputs.length c5, .slice A6 t.vars.length c6, .slice A7 t.arrays.length c7, .slice A8 t.modes.length c8, .slice A9 t.claims.length c9, .slice A10 t.body.len c10] 66)) (by simp) (fun b hs hl => ⟨hs, fun f => World.cell?_of_block (((Below.refl W2.heap.size W2).alloc (Nat.le_refl _) _).block b hl)⟩)); have r1 : W2.cell? ⟨P, 1, none⟩ = some (.slice A1 shs.length d1) := hT2.p.tb.cell 1; have r2 : W2.cell? ⟨P, 2, none⟩ = some v2 := hT2.p.tb.cell 2; have r2a : ∀ o, (W2.alloc o).cell? ⟨P, 2, none⟩ = some v2 := fun o => (hT2.alloc o).p.tb.cell 2; clear hok htn hrow hd2 hg2 hT2 hr2 hrr))
              all_goals
                have HS4 := Lib.hid (HS3.out.setT 2 (.slice (some ⟨g, 0, none⟩) (tl.length + 1) cap))
                have hs5 : TGt (⟨D, R, P, v, zs, w⟩ : Px) #[.slice A0 l.length d0, .slice A1 shs.length d1, .slice (some ⟨g, 0, none⟩) (tl.length + 1) cap] [(A1, shs.length, d1, 3, shs.flatMap shCells), (A0, l.length, d0, 1, l.map Value.string)] (tl ++ [t]) (xs ++ [.string t.name, .int .i64 t.period, .int .i64 t.deadline, .int .i64 t.priority, .int .i64 t.jitter, .slice A5 t.inputs.length c5, .slice A6 t.vars.length c6, .slice A7 t.arrays.length c7, .slice A8 t.modes.length c8, .slice A9 t.claims.length c9, .slice A10 t.body.len c10]) (.slice (some ⟨g, 0, none⟩) (tl.length + 1) cap) (W3.setCell ⟨P, 2, none⟩ (.slice (some ⟨g, 0, none⟩) (tl.length + 1) cap)) := HS4.out
                have HS5 := Lib.hid hs5
                clear hs5 HS4 HS3 q2 q2f r1 r2 r2a p1 p2 p1a p2a hc hc2 hcat w97 w8
                go_wp2_with fail
                go_roundw
                case rel => exact ⟨k + 1, tl ++ [t], _, _, by omega, by first | rfl | go_num, Lib.hid ⟨by have := HO.out.1; simp; omega, fun x hx => by
                  rcases List.mem_append.1 hx with hx | hx
                  · exact HO.out.2 x hx
                  · simp only [List.mem_cons, List.not_mem_nil, or_false] at hx
                    subst hx
                    exact HOK.out, HS5.out⟩⟩
                case measure => simp [intOf]; omega
            · have ek : k = tasks := by omega
              subst ek
              obtain ⟨A2, c2, rfl, _⟩ := Lies.own (S := fun _ => True) HR.out.2.2.own (fun _ _ _ => trivial) HR.out.2.2.ts.len
              have kz : ¬ ((tl.length : Nat) : Int) < ((tl.length : Nat) : Int) := by omega
              have HF := Lib.hid HR.out.2.2
              have HO := Lib.hid (And.intro HR.out.1 HR.out.2.1)
              clear HR
              have p0 : wr.cell? ⟨P, 0, none⟩ = some (.slice A0 l.length d0) := HF.out.p.tb.cell 0
              have p1 : wr.cell? ⟨P, 1, none⟩ = some (.slice A1 shs.length d1) := HF.out.p.tb.cell 1
              have p2 : wr.cell? ⟨P, 2, none⟩ = some (.slice A2 tl.length c2) := HF.out.p.tb.cell 2
              have y0 : wr.cell? ⟨R, 0, none⟩ = some (.slice none 0 0) := HF.out.p.rb.cell 0
              have y1 : wr.cell? ⟨R, 1, none⟩ = some (.slice none 0 0) := HF.out.p.rb.cell 1
              have y2 : wr.cell? ⟨R, 2, none⟩ = some (.slice none 0 0) := HF.out.p.rb.cell 2
              have f0 : wr.frozen? ⟨R, 0, none⟩ = false := HF.out.p.rb.frozen 0
              have f1 : wr.frozen? ⟨R, 1, none⟩ = false := HF.out.p.rb.frozen 1
              have f2 : wr.frozen? ⟨R, 2, none⟩ = false := HF.out.p.rb.frozen 2
              go_wp2_with fail
              have hk : ∀ b, b ≠ R → (((wr.setCell ⟨R, 0, none⟩ (.slice A0 l.length d0)).setCell ⟨R, 1, none⟩ (.slice A1 shs.length d1)).setCell ⟨R, 2, none⟩ (.slice A2 tl.length c2)).heap[b]? = wr.heap[b]? := fun b hb => by
                rw [Below.heap_setCell _ _ _ _ hb, Below.heap_setCell _ _ _ _ hb, Below.heap_setCell _ _ _ _ hb]
              obtain ⟨g1, g2, g3⟩ := TGt.fin (A0 := A0) (A1 := A1) (A2 := A2) (c0 := d0) (c1 := d1) (c2 := c2) (l := l) (shs := shs) HF.out (by simp) (by simp) (by simp) hk ⟨rfl, rfl, rfl⟩
              refine bodyPost_ret (v := .agg #[.slice A0 l.length d0, .slice A1 shs.length d1, .slice A2 tl.length c2]) ?_ rfl ⟨⟨l, shs, tl⟩, _, rfl, ⟨⟨by have := HL.out.1; show l.length ≤ 2; omega, HL.out.2⟩, HG3.out.1, ⟨by have := HO.out.1; show tl.length ≤ 6; omega, HO.out.2⟩⟩, g1, g2, g3⟩
              simp [results, Tryd.results16, go_sem, y0, y1, y2]
    · go_upto_region 5 with fail
      go_region_law (first
        | (refine step_append_lies _ rfl (.tmp 19) (.tmp 25) 28 rfl _ 9 iS _ 1 16 Tryd.underlying28 HIS.out.1 HIS.out.2.1 HIS.out.2.2.1 HIS.out.2.2.2 rfl (by decide) v0 l.length (l.map Value.string) (by simp [Act.eval]) ((HS.out.drew.alloc (.cells #[.string ⟨#[114]⟩, .string ⟨#[115]⟩] 9)).alloc (.cells #[.string ⟨#[115]⟩] 9)).own ⟨wr.heap.size + 1, 0, none⟩ 1 1 [.string ⟨#[115]⟩] (by simp [Act.eval]) rfl (blk_news (g := wr.heap.size + 1) (t := 9) (cs := #[.string ⟨#[115]⟩]) (blk_new (by simp))) (by intro u hu; simp at hu; subst hu; rfl) (by omega) (by unfold maxLen; have := HL.out.1; omega) (by have := HL.out.1; omega) (by have h := HS.out.p.gen.size; simp only at h; simp; omega) _ rfl ?_; intro g cap W3 hown hgrow _ _; have HS3 := Lib.hid (((HS.out.drew.alloc (.cells #[.string ⟨#[114]⟩, .string ⟨#[115]⟩] 9)).alloc (.cells #[.string ⟨#[115]⟩] 9)).app (x := ⟨#[115]⟩) hown hgrow); have d0 : W3.cell? ⟨P, 0, none⟩ = some v0 := HS3.out.p.tb.cell 0; have f0 : W3.frozen? ⟨P, 0, none⟩ = false := HS3.out.p.tb.frozen 0; clear hown hgrow))
      all_goals
        have hs4 : TGr (⟨D, R, P, v, zs, w⟩ : Px) #[.slice (some ⟨g, 0, none⟩) (l.length + 1) cap, nilV, nilV] (l ++ [⟨#[115]⟩]) (.slice (some ⟨g, 0, none⟩) (l.length + 1) cap) (W3.setCell ⟨P, 0, none⟩ (.slice (some ⟨g, 0, none⟩) (l.length + 1) cap)) := HS3.out.setT 0 _
        have HS4 := Lib.hid hs4
        clear hs4 c0 c0a c0b c0c d0 f0 HS HS3
        go_wp2_with fail
        go_roundw
        case rel => exact ⟨0, l ++ [⟨#[115]⟩], _, by first | rfl | go_num, by omega, by omega, Lib.hid ⟨by have := HL.out.1; simp; omega, fun x hx => by
          rcases List.mem_append.1 hx with hx | hx
          · exact HL.out.2 x hx
          · simp only [List.mem_cons, List.not_mem_nil, or_false] at hx
            subst hx
            unfold Nm nameList; simp, HS4.out⟩⟩
        case measure => simp [intOf]
    · go_upto_region 5 with fail
      go_region_law (first
        | (refine step_append_lies _ rfl (.tmp 19) (.tmp 25) 28 rfl _ 9 iS _ 1 16 Tryd.underlying28 HIS.out.1 HIS.out.2.1 HIS.out.2.2.1 HIS.out.2.2.2 rfl (by decide) v0 l.length (l.map Value.string) (by simp [Act.eval]) ((HS.out.drew.alloc (.cells #[.string ⟨#[114]⟩, .string ⟨#[115]⟩] 9)).alloc (.cells #[.string ⟨#[114]⟩] 9)).own ⟨wr.heap.size + 1, 0, none⟩ 1 1 [.string ⟨#[114]⟩] (by simp [Act.eval]) rfl (blk_news (g := wr.heap.size + 1) (t := 9) (cs := #[.string ⟨#[114]⟩]) (blk_new (by simp))) (by intro u hu; simp at hu; subst hu; rfl) (by omega) (by unfold maxLen; have := HL.out.1; omega) (by have := HL.out.1; omega) (by have h := HS.out.p.gen.size; simp only at h; simp; omega) _ rfl ?_; intro g cap W3 hown hgrow _ _; have HS3 := Lib.hid (((HS.out.drew.alloc (.cells #[.string ⟨#[114]⟩, .string ⟨#[115]⟩] 9)).alloc (.cells #[.string ⟨#[114]⟩] 9)).app (x := ⟨#[114]⟩) hown hgrow); have d0 : W3.cell? ⟨P, 0, none⟩ = some v0 := HS3.out.p.tb.cell 0; have f0 : W3.frozen? ⟨P, 0, none⟩ = false := HS3.out.p.tb.frozen 0; clear hown hgrow))
      all_goals
        have hs4 : TGr (⟨D, R, P, v, zs, w⟩ : Px) #[.slice (some ⟨g, 0, none⟩) (l.length + 1) cap, nilV, nilV] (l ++ [⟨#[114]⟩]) (.slice (some ⟨g, 0, none⟩) (l.length + 1) cap) (W3.setCell ⟨P, 0, none⟩ (.slice (some ⟨g, 0, none⟩) (l.length + 1) cap)) := HS3.out.setT 0 _
        have HS4 := Lib.hid hs4
        clear hs4 c0 c0a c0b c0c d0 f0 HS HS3
        go_wp2_with fail
        go_roundw
        case rel => exact ⟨1, l ++ [⟨#[114]⟩], _, by first | rfl | go_num, by omega, by omega, Lib.hid ⟨by have := HL.out.1; simp; omega, fun x hx => by
          rcases List.mem_append.1 hx with hx | hx
          · exact HL.out.2 x hx
          · simp only [List.mem_cons, List.not_mem_nil, or_false] at hx
            subst hx
            unfold Nm nameList; simp, HS4.out⟩⟩
        case measure => simp [intOf]
end Go.Proofs.YtbppfhlpielpcaaDoor
