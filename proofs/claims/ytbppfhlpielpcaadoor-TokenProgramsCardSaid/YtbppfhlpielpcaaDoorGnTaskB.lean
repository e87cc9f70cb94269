/- The generator's task: from behind the inputs. -/
import Derived.Test.YtbppfhlpielpcaaDoorGnTaskC
namespace Go.Proofs.YtbppfhlpielpcaaDoor
open Go.RowKit
set_option linter.unusedVariables false
set_option maxRecDepth 1000000 in
set_option maxHeartbeats 40000000 in
theorem task_b {D : Nat} {v : Value} {zs : List Int} {name : ByteArray} {sa : Option Addr} {sc : Nat} {ss : List (ByteArray × Int × ByteArray)} {weight stmts : Int} {w : World} (HN : Hid ((∃ i : Nat, i < 6 ∧ name = ⟨#[116, UInt8.ofNat (97 + i)]⟩) ∧ (Lies w (fun b => b ≠ D) sa ss.length sc 3 (ss.flatMap shCells)) ∧ (ss.length ≤ 1 ∧ ∀ x ∈ ss, Nm x.1 ∧ (1 ≤ x.2.1 ∧ x.2.1 ≤ 8) ∧ Nm x.2.2))) (wt0 : 0 ≤ weight) (wt1 : weight ≤ 1000000) (st0 : 0 ≤ stmts) (st1 : stmts ≤ 100) {iI iS : TypeInfo} (HII : Hid (Tryd.prog.info? 72 = some iI ∧ iI.zero = some (.agg #[.string ⟨#[]⟩, .int .i64 0, .int .i64 0]) ∧ iI.size = 3 ∧ iI.bytes = 32)) (HIS : Hid (Tryd.prog.info? 9 = some iS ∧ iS.zero = some (.string ⟨#[]⟩) ∧ iS.size = 1 ∧ iS.bytes = 16)) {T R : Nat} {per dl pri jit : Int} (HR : Hid (w.heap.size = R)) (HQ2 : Hid ((2000 ≤ per ∧ per ≤ 6000) ∧ (1600 ≤ dl ∧ dl ≤ per) ∧ (1 ≤ pri ∧ pri ≤ 5) ∧ (0 ≤ jit ∧ jit ≤ 30))) {M : Nat} {z : Int} {l : List (ByteArray × Int × Int)} (HIn : Hid (∀ x ∈ l, inOk x)) (HQ5 : Hid (z = l.length ∧ l.length ≤ 2)) {A5 : Option Addr} {c5 : Nat} {Av : Option Addr} {cv : Nat} {g6 : Nat} {u14 u15 u20 u21 u22 u23 u24 u25 u26 u27 u28 u29 u30 u31 u32 u33 u34 u35 u36 u37 u38 u39 u40 u41 u42 u43 u44 u45 u46 u47 u48 u49 u50 u51 u52 u53 u54 u55 u56 u57 u58 u59 u60 u61 u62 u63 u64 u65 u66 u67 u68 u69 u70 u71 u72 u73 u74 u75 u76 u77 u78 u79 u80 u81 u82 u83 u84 u85 u86 u87 u88 u89 u90 u91 u92 u93 u94 u95 u96 u97 u98 u99 u100 u101 u102 u103 u104 u105 u106 u107 u108 u109 u110 u111 u112 u113 u114 u115 u116 u117 u118 u119 u120 u121 u122 u123 u124 u125 u126 u127 u128 u129 u130 u131 u132 u133 u134 u135 u136 u137 u138 u139 u140 u141 u142 u143 u144 u145 u146 u147 u148 u149 u150 u151 u152 u153 u154 u155 u156 u157 u158 u159 u160 u161 u162 u163 u164 u165 u166 u167 u168 u169 u170 u171 u172 u173 u174 u175 u176 u177 u178 u179 u180 u181 u182 u183 u184 u185 u186 u187 u188 u189 u190 u191 u192 u193 u194 u195 u196 u197 u198 u199 u200 u201 u202 u203 u204 u205 u206 u207 u208 u209 u210 u211 u212 u213 u214 u215 u216 u217 u218 u219 u220 : Value} {wc : World} (HP : Hid (TP (⟨D, R, T, v, zs, w⟩ : Tx) M (tC name per dl pri jit (.slice A5 l.length c5) (.slice (some ⟨g6, 0, none⟩) 3 3) nilS nilS nilS nilS) (mC D (.slice Av (l.length + 3) cv) nilS sa ss.length sc stmts) [(Av, l.length + 3, cv, 1, (nms l ++ ikn).map Value.string), (A5, l.length, c5, 3, l.flatMap inCells), iknR g6] wc)) :
    Code.wp Tryd.prog (dropC 7 ((Tryd.f31.body).getD .skip)) (bodyPost Tryd.prog Tryd.f31 fun e w' => TaskPost D v zs name w e w') ⟨#[.pointer (some ⟨D, 0, none⟩), .string name, .slice sa ss.length sc, .int .i64 weight, .int .i64 stmts, undef, undef, undef, undef, undef, .pointer (some ⟨R, 0, none⟩), .pointer (some ⟨T, 0, none⟩), .pointer (some ⟨M, 0, none⟩), .int .i64 z, u14, u15, undef, undef, undef, undef, u20, u21, u22, u23, u24, u25, u26, u27, u28, u29, u30, u31, u32, u33, u34, u35, u36, u37, u38, u39, u40, u41, u42, u43, u44, u45, u46, u47, u48, u49, u50, u51, u52, u53, u54, u55, u56, u57, u58, u59, u60, u61, u62, u63, u64, u65, u66, u67, u68, u69, u70, u71, u72, u73, u74, u75, u76, u77, u78, u79, u80, u81, u82, u83, u84, u85, u86, u87, u88, u89, u90, u91, u92, u93, u94, u95, u96, u97, u98, u99, u100, u101, u102, u103, u104, u105, u106, u107, u108, u109, u110, u111, u112, u113, u114, u115, u116, u117, u118, u119, u120, u121, u122, u123, u124, u125, u126, u127, u128, u129, u130, u131, u132, u133, u134, u135, u136, u137, u138, u139, u140, u141, u142, u143, u144, u145, u146, u147, u148, u149, u150, u151, u152, u153, u154, u155, u156, u157, u158, u159, u160, u161, u162, u163, u164, u165, u166, u167, u168, u169, u170, u171, u172, u173, u174, u175, u176, u177, u178, u179, u180, u181, u182, u183, u184, u185, u186, u187, u188, u189, u190, u191, u192, u193, u194, u195, u196, u197, u198, u199, u200, u201, u202, u203, u204, u205, u206, u207, u208, u209, u210, u211, u212, u213, u214, u215, u216, u217, u218, u219, u220], []⟩ wc := by
  conv => arg 2; whnf
  conv => arg 4; zeta
  go_wp2_with fail
  refine (HP.out.next 2 (by omega)).mono ?_
  rintro e W14 ⟨q, rfl, hq, hp⟩
  have HP14 := Lib.hid hp
  have hq2 := hq.rng (by omega)
  clear hp HP hq
  go_upto_if 96 with fail
  go_cut [] from 20 (fun wx => ∃ ars : List (ByteArray × Int), ∃ A7 c7 A3 c3, Hid ((ars.length ≤ 1 ∧ ∀ x ∈ ars, Nm x.1 ∧ (1 ≤ x.2 ∧ x.2 ≤ 8)) ∧ TP (⟨D, R, T, v, zs, w⟩ : Tx) M (tC name per dl pri jit (.slice A5 l.length c5) (.slice (some ⟨g6, 0, none⟩) 3 3) (.slice A7 ars.length c7) nilS nilS nilS) (mC D (.slice Av (l.length + 3) cv) (.slice A3 ars.length c3) sa ss.length sc stmts) [(A3, ars.length, c3, 1, (ars.map (·.1)).map Value.string), (A7, ars.length, c7, 2, ars.flatMap arCells), (Av, l.length + 3, cv, 1, (nms l ++ ikn).map Value.string), (A5, l.length, c5, 3, l.flatMap inCells), iknR g6] wx))
  case first =>
    by_cases h1 : q = 1
    · subst h1
      go_wp2_with fail
      refine (HP14.out.next 4 (by omega)).mono ?_
      rintro e W15 ⟨q2, rfl, hq3, hp⟩
      obtain ⟨q20, q21⟩ := hq3.rng (by omega)
      obtain ⟨m, rfl⟩ := Int.eq_ofNat_of_zero_le q20
      have hm3 := pow_1to8 m (by omega)
      have HP15 := Lib.hid hp
      have a7 : ∀ o, (W15.alloc o).cell? ⟨T, 7, none⟩ = some (.slice none 0 0) := fun o => (HP15.out.alloc o).1.tb.cell 7
      have b7 : ∀ o, (W15.alloc o).frozen? ⟨T, 7, none⟩ = false := fun o => (HP15.out.alloc o).1.tb.frozen 7
      have HP16 := Lib.hid (((HP15.out.alloc (.cells #[.string ⟨#[97]⟩, .int .i64 (wrap64 (2 ^ m))] 68)).push (row_lit (k := 1) (size := 2) (Blk.new W15 68 #[.string ⟨#[97]⟩, .int .i64 (wrap64 (2 ^ m))]) (Nat.le_of_lt HP15.out.size) (by decide) rfl)).setT 7 (.slice (some ⟨W15.heap.size, 0, none⟩) 1 1))
      clear hp hq3
      go_upto_region 16 with fail
      generalize hW16 : (W15.alloc (.cells #[.string ⟨#[97]⟩, .int .i64 (wrap64 (2 ^ m))] 68)).setCell ⟨T, 7, none⟩ (.slice (some ⟨W15.heap.size, 0, none⟩) 1 1) = W16 at *
      replace HP16 : Hid (TP (⟨D, R, T, v, zs, w⟩ : Tx) M (tC name per dl pri jit (.slice A5 l.length c5) (.slice (some ⟨g6, 0, none⟩) 3 3) (.slice (some ⟨W15.heap.size, 0, none⟩) 1 1) nilS nilS nilS) (mC D (.slice Av (l.length + 3) cv) nilS sa ss.length sc stmts) [(some ⟨W15.heap.size, 0, none⟩, 1, 1, 2, [.string ⟨#[97]⟩, .int .i64 (wrap64 (2 ^ m))]), (Av, l.length + 3, cv, 1, (nms l ++ ikn).map Value.string), (A5, l.length, c5, 3, l.flatMap inCells), iknR g6] W16) := HP16
      clear hW16 a7 b7
      have a3 : ∀ o, (W16.alloc o).cell? ⟨M, 3, none⟩ = some (.slice none 0 0) := fun o => (HP16.out.alloc o).2.1.cell 3
      have b3 : ∀ o, (W16.alloc o).frozen? ⟨M, 3, none⟩ = false := fun o => (HP16.out.alloc o).2.1.frozen 3
      have HP17 := Lib.hid (((HP16.out.alloc (.cells #[.string ⟨#[97]⟩] 9)).push (row_lit (k := 1) (size := 1) (Blk.new W16 9 #[.string ⟨#[97]⟩]) (Nat.le_of_lt HP16.out.size) (by decide) rfl)).setM 3 (.slice (some ⟨W16.heap.size, 0, none⟩) 1 1))
      go_wp2_with fail
      go_meet
      case rel => exact ⟨[(⟨#[97]⟩, wrap64 (2 ^ m))], some ⟨W15.heap.size, 0, none⟩, 1, some ⟨W16.heap.size, 0, none⟩, 1, Lib.hid ⟨⟨by simp, fun x hx => by simp only [List.mem_cons, List.not_mem_nil, or_false] at hx; subst hx; exact ⟨by unfold Nm nameList; simp, hm3⟩⟩, HP17.out⟩⟩
    · have h2 : (q == 1) = false := by simp [h1]
      go_wp2_with fail
      go_meet
      case rel => exact ⟨[], none, 0, none, 0, Lib.hid ⟨⟨by simp, fun x hx => by cases hx⟩, (HP14.out.push (r := (none, 0, 0, 2, [])) Lies.nil).push (r := (none, 0, 0, 1, [])) Lies.nil⟩⟩
  case rest =>
    obtain ⟨ars, A7, c7, A3, c3, HA⟩ := hcut
    clear HP14 hq2
    have HAr := Lib.hid HA.out.1
    replace HA := Lib.hid HA.out.2
    have c5' : wc.cell? ⟨T, 5, none⟩ = some (.slice A5 l.length c5) := HA.out.1.tb.cell 5
    go_upto_region 17 with fail
    go_cut [116] from 20 (fun s wx => ∃ b : Bool, s = .bool b ∧ (b = true → 0 < l.length) ∧ Hid (TP (⟨D, R, T, v, zs, w⟩ : Tx) M (tC name per dl pri jit (.slice A5 l.length c5) (.slice (some ⟨g6, 0, none⟩) 3 3) (.slice A7 ars.length c7) nilS nilS nilS) (mC D (.slice Av (l.length + 3) cv) (.slice A3 ars.length c3) sa ss.length sc stmts) [(A3, ars.length, c3, 1, (ars.map (·.1)).map Value.string), (A7, ars.length, c7, 2, ars.flatMap arCells), (Av, l.length + 3, cv, 1, (nms l ++ ikn).map Value.string), (A5, l.length, c5, 3, l.flatMap inCells), iknR g6] wx))
    case first =>
      by_cases hl : 0 < l.length
      · have hl' : (0 : Int) < l.length := by omega
        go_wp2_with fail
        refine (HA.out.next 2 (by omega)).mono ?_
        rintro e W18 ⟨q, rfl, hq, hp⟩
        have HP18 := Lib.hid hp
        clear hp hq
        go_wp2_with fail
        go_meet
        case rel => exact ⟨_, rfl, fun _ => hl, HP18⟩
      · have hl0 : l.length = 0 := by omega
        rw [hl0] at c5'
        go_wp2_with fail
        go_meet
        case rel => exact ⟨false, rfl, (fun h => by cases h), HA⟩
    case rest =>
      obtain ⟨bt, rfl, hbt, HB⟩ := hcut
      clear HA c5'
      go_upto_if 116 with fail
      go_cut [] from 20 (fun wx => ∃ mds : List (ByteArray × ByteArray × Int × Int), ∃ A8 c8, Hid ((mds.length ≤ 1 ∧ ∀ x ∈ mds, x.1 = few ∧ Nm x.2.1 ∧ (-2 ≤ x.2.2.1 ∧ x.2.2.1 ≤ 14) ∧ (x.2.2.1 ≤ x.2.2.2 ∧ x.2.2.2 ≤ 14)) ∧ ∃ rest, TP (⟨D, R, T, v, zs, w⟩ : Tx) M (tC name per dl pri jit (.slice A5 l.length c5) (.slice (some ⟨g6, 0, none⟩) 3 3) (.slice A7 ars.length c7) (.slice A8 mds.length c8) nilS nilS) (mC D (.slice Av (l.length + 3) cv) (.slice A3 ars.length c3) sa ss.length sc stmts) ((A8, mds.length, c8, 4, mds.flatMap mdCells) :: rest) wx ∧ ∀ r ∈ [(A3, ars.length, c3, 1, (ars.map (·.1)).map Value.string), (A7, ars.length, c7, 2, ars.flatMap arCells), (Av, l.length + 3, cv, 1, (nms l ++ ikn).map Value.string), (A5, l.length, c5, 3, l.flatMap inCells), iknR g6], r ∈ rest))
      case first =>
        cases bt
        · go_wp2_with fail
          go_meet
          case rel => exact ⟨[], none, 0, Lib.hid ⟨⟨by simp, fun x hx => by cases hx⟩, _, HB.out.push (r := (none, 0, 0, 4, [])) Lies.nil, fun r hr => hr⟩⟩
        · have hl := hbt rfl
          rcases l with _ | ⟨⟨xn, xlo, xhi⟩, l⟩
          · simp at hl
          have hrow := HB.out.1.row (A5, ((xn, xlo, xhi) :: l).length, c5, 3, ((xn, xlo, xhi) :: l).flatMap inCells) (by simp)
          obtain ⟨b5, f5, rfl, hc5⟩ := hrow.cells hl
          have k0 := hc5 0 (.string xn) rfl
          have k1 := hc5 1 (.int .i64 xlo) rfl
          have k2 := hc5 2 (.int .i64 xhi) rfl
          have c5' : wc.cell? ⟨T, 5, none⟩ = some (.slice (some ⟨b5, f5, none⟩) ((xn, xlo, xhi) :: l).length c5) := HB.out.1.tb.cell 5
          have HB2 := Lib.hid ((HB.out.alloc (.cells #[.string xn, .int .i64 xlo, .int .i64 xhi] 72)).push (row_lit (k := 1) (size := 3) (Blk.new wc 72 #[.string xn, .int .i64 xlo, .int .i64 xhi]) (Nat.le_of_lt HB.out.size) (by decide) rfl))
          have hio := HIn.out (xn, xlo, xhi) (by simp)
          obtain ⟨io1, ⟨io2, io3⟩, io4, io5⟩ := hio
          simp only at io1 io2 io3 io4 io5
          have HNx := Lib.hid io1
          have HlLen := Lib.hid hl
          replace c5' : wc.cell? ⟨T, 5, none⟩ = some (.slice (some ⟨b5, f5, none⟩) (l.length + 1) c5) := c5'
          clear hrow hc5 io1
          rw [Nat.add_zero] at k0
          have q0 : IntKind.i64.wrap (xhi - xlo) = xhi - xlo := IntWalk.i64_in _ (by omega)
          have q1 : IntKind.i64.wrap (xhi - xlo + 1) = xhi - xlo + 1 := IntWalk.i64_in _ (by omega)
          go_upto_region 19 with fail
          have x0 := TP.x3 HB2.out.drew
          go_region_held3 (fun w' => w'.cell? ⟨wc.heap.size, 0, none⟩ = some (.string xn) ∧ w'.cell? ⟨wc.heap.size, 1, none⟩ = some (.int .i64 xlo) ∧ w'.cell? ⟨wc.heap.size, 2, none⟩ = some (.int .i64 xhi))
            (first | (with_reducible assumption) | exact x0 | exact TP.x3 HP19.out)
            (first | (go_at_call 30; refine (HB2.out.drew.next (xhi - xlo + 1) (by omega)).mono ?_; rintro e W19 ⟨r19, rfl, hr, hp⟩; have hr19 := hr.rng (by omega); have q2 : IntKind.i64.wrap (xlo + r19) = xlo + r19 := IntWalk.i64_in _ (by omega); have HP19 := Lib.hid hp; clear hp hr))
          obtain ⟨lo2, hlo2⟩ : ∃ lo2, xlo + r19 = lo2 := ⟨_, rfl⟩
          have q3 : xlo ≤ lo2 ∧ lo2 ≤ xhi := by omega
          rw [hlo2]
          clear q0 q1 q2 hlo2 hr19 x0 HB2 HB c5' k0 k1 k2 hl hbt
          obtain ⟨q30, q31⟩ := q3
          have q0 : IntKind.i64.wrap (xhi - lo2) = xhi - lo2 := IntWalk.i64_in _ (by omega)
          have q1 : IntKind.i64.wrap (xhi - lo2 + 1) = xhi - lo2 + 1 := IntWalk.i64_in _ (by omega)
          generalize wc.heap.size = xb at *
          go_upto_region 20 with fail
          have x0 := TP.x3 HP19.out.drew
          go_region_held3 (fun w' => w'.cell? ⟨xb, 0, none⟩ = some (.string xn) ∧ w'.cell? ⟨xb, 1, none⟩ = some (.int .i64 xlo) ∧ w'.cell? ⟨xb, 2, none⟩ = some (.int .i64 xhi))
            (first | (with_reducible assumption) | exact x0 | (with_reducible exact TP.x3 HP20.out) | (with_reducible exact TP.x3 (HP20.out.alloc _)) | exact TP.x3 ((HP20.out.alloc _).setT 8 _))
            (first | (go_at_call 30; refine (HP19.out.drew.next (xhi - lo2 + 1) (by omega)).mono ?_; rintro e W20 ⟨r20, rfl, hr, hp⟩; have hr20 := hr.rng (by omega); have q2 : IntKind.i64.wrap (lo2 + r20) = lo2 + r20 := IntWalk.i64_in _ (by omega); have HP20 := Lib.hid hp; have a8 : ∀ o, (W20.alloc o).cell? ⟨T, 8, none⟩ = some (.slice none 0 0) := fun o => (HP20.out.alloc o).1.tb.cell 8; have b8 : ∀ o, (W20.alloc o).frozen? ⟨T, 8, none⟩ = false := fun o => (HP20.out.alloc o).1.tb.frozen 8; clear hp hr))
          have HP21 := Lib.hid (((HP20.out.alloc (.cells #[.string few, .string xn, .int .i64 lo2, .int .i64 (lo2 + r20)] 74)).push (row_lit (k := 1) (size := 4) (Blk.new W20 74 #[.string few, .string xn, .int .i64 lo2, .int .i64 (lo2 + r20)]) (Nat.le_of_lt HP20.out.size) (by decide) rfl)).setT 8 (.slice (some ⟨W20.heap.size, 0, none⟩) 1 1))
          go_wp2_with fail
          go_meet
          case rel => exact ⟨[(few, xn, lo2, lo2 + r20)], some ⟨W20.heap.size, 0, none⟩, 1, Lib.hid ⟨⟨by simp, fun x hx => by
            simp only [List.mem_cons, List.not_mem_nil, or_false] at hx
            subst hx
            exact ⟨rfl, HNx.out, ⟨by show -2 ≤ lo2; omega, by show lo2 ≤ 14; omega⟩, by show lo2 ≤ lo2 + r20; omega, by show lo2 + r20 ≤ 14; omega⟩⟩, _, HP21.out, fun r hr => List.mem_cons_of_mem _ hr⟩⟩
      case rest =>
        obtain ⟨mds, A8, c8, HM2⟩ := hcut
        refine ‹∀ (a : Act) (w : World), Code.wp _ _ _ a w → _› _ _ ?_
        exact task_c HN wt0 wt1 st0 st1 HII HIS HR HQ2 HIn HQ5 HAr HM2
end Go.Proofs.YtbppfhlpielpcaaDoor
