/- The generator's task: from the block that gives statements away. -/
import Derived.Test.YtbppfhlpielpcaaDoorGnTaskE
namespace Go.Proofs.YtbppfhlpielpcaaDoor
open Go.RowKit
set_option linter.unusedVariables false
set_option maxRecDepth 1000000 in
set_option maxHeartbeats 40000000 in
theorem task_d {D : Nat} {v : Value} {zs : List Int} {name : ByteArray} {sa : Option Addr} {sc : Nat} {ss : List (ByteArray × Int × ByteArray)} {weight stmts : Int} {w : World} (HN : Hid ((∃ i : Nat, i < 6 ∧ name = ⟨#[116, UInt8.ofNat (97 + i)]⟩) ∧ (Lies w (fun b => b ≠ D) sa ss.length sc 3 (ss.flatMap shCells)) ∧ (ss.length ≤ 1 ∧ ∀ x ∈ ss, Nm x.1 ∧ (1 ≤ x.2.1 ∧ x.2.1 ≤ 8) ∧ Nm x.2.2))) (wt0 : 0 ≤ weight) (wt1 : weight ≤ 1000000) (st0 : 0 ≤ stmts) (st1 : stmts ≤ 100) {iI iS : TypeInfo} (HII : Hid (Tryd.prog.info? 72 = some iI ∧ iI.zero = some (.agg #[.string ⟨#[]⟩, .int .i64 0, .int .i64 0]) ∧ iI.size = 3 ∧ iI.bytes = 32)) (HIS : Hid (Tryd.prog.info? 9 = some iS ∧ iS.zero = some (.string ⟨#[]⟩) ∧ iS.size = 1 ∧ iS.bytes = 16)) {T R : Nat} {per dl pri jit : Int} (HR : Hid (w.heap.size = R)) (HQ2 : Hid ((2000 ≤ per ∧ per ≤ 6000) ∧ (1600 ≤ dl ∧ dl ≤ per) ∧ (1 ≤ pri ∧ pri ≤ 5) ∧ (0 ≤ jit ∧ jit ≤ 30))) {M : Nat} {z : Int} {l : List (ByteArray × Int × Int)} (HIn : Hid (∀ x ∈ l, inOk x)) (HQ5 : Hid (z = l.length ∧ l.length ≤ 2)) {A5 : Option Addr} {c5 : Nat} {Av : Option Addr} {cv : Nat} {g6 : Nat} {ars : List (ByteArray × Int)} {A7 : Option Addr} {c7 : Nat} {A3 : Option Addr} {c3 : Nat} (HAr : Hid (ars.length ≤ 1 ∧ ∀ x ∈ ars, Nm x.1 ∧ (1 ≤ x.2 ∧ x.2 ≤ 8))) {mds : List (ByteArray × ByteArray × Int × Int)} {A8 : Option Addr} {c8 : Nat} (HMd : Hid (mds.length ≤ 1 ∧ ∀ x ∈ mds, x.1 = few ∧ Nm x.2.1 ∧ (-2 ≤ x.2.2.1 ∧ x.2.2.1 ≤ 14) ∧ (x.2.2.1 ≤ x.2.2.2 ∧ x.2.2.2 ≤ 14))) {rst : List RowR} (HSub : Hid (∀ r ∈ [(A3, ars.length, c3, 1, (ars.map (·.1)).map Value.string), (A7, ars.length, c7, 2, ars.flatMap arCells), (Av, l.length + 3, cv, 1, (nms l ++ ikn).map Value.string), (A5, l.length, c5, 3, l.flatMap inCells), iknR g6], r ∈ rst)) {t : Sts} {Ab : Option Addr} {cb : Nat} (HG : Hid (t.Good ∧ t.height ≤ 4 ∧ t.len ≤ 2 * 5 ∧ t.len ≤ cb)) {Ai : Option Addr} {ci : Nat} {L : List Int} (HLb : Hid ((∀ x ∈ L, 1 ≤ x ∧ x ≤ 12) ∧ L.length ≤ 1000000)) (hLl : L.length ≤ 1000000) {u14 u15 u16 u17 u19 u20 u21 u22 u23 u24 u25 u26 u27 u28 u29 u30 u31 u32 u33 u34 u35 u36 u37 u38 u39 u40 u41 u42 u43 u44 u45 u46 u47 u48 u49 u50 u51 u52 u53 u54 u55 u56 u57 u58 u59 u60 u61 u62 u63 u64 u65 u66 u67 u68 u69 u70 u71 u72 u73 u74 u75 u76 u77 u78 u79 u80 u81 u82 u83 u84 u85 u86 u87 u88 u89 u90 u91 u92 u93 u94 u95 u96 u97 u98 u99 u100 u101 u102 u103 u104 u105 u106 u107 u108 u109 u110 u111 u112 u113 u114 u115 u116 u117 u118 u119 u120 u121 u122 u123 u124 u125 u126 u127 u128 u129 u130 u131 u132 u133 u134 u135 u136 u137 u138 u139 u140 u141 u142 u143 u144 u145 u146 u147 u148 u149 u150 u151 u152 u153 u154 u155 u156 u157 u158 u159 u160 u161 u162 u163 u164 u165 u166 u167 u168 u169 u170 u171 u172 u173 u174 u175 u176 u177 u178 u179 u180 u181 u182 u183 u184 u185 u186 u187 u188 u189 u190 u191 u192 u193 u194 u195 u196 u197 u198 u199 u200 u201 u202 u203 u204 u205 u206 u207 u208 u209 u210 u211 u212 u213 u214 u215 u216 u217 u218 u219 u220 : Value} {wc : World} {cls : List (Int × Int)} {A9 : Option Addr} {c9 : Nat} (HC : Hid ((cls.length ≤ 1 ∧ ∀ x ∈ cls, (1 ≤ x.1 ∧ x.1 ≤ 12) ∧ (1 ≤ x.2 ∧ x.2 ≤ 12)) ∧ ∃ rs, TB (⟨D, R, T, v, zs, w⟩ : Tx) (tC name per dl pri jit (.slice A5 l.length c5) (.slice (some ⟨g6, 0, none⟩) 3 3) (.slice A7 ars.length c7) (.slice A8 mds.length c8) (.slice A9 cls.length c9) (.slice Ab t.len cb)) ((A9, cls.length, c9, 2, cls.flatMap clCells) :: rs) t Ab wc ∧ ∀ r ∈ ((Ai, L.length, ci, 1, iv L) :: (A8, mds.length, c8, 4, mds.flatMap mdCells) :: rst), r ∈ rs)) :
    Code.wp Tryd.prog (dropC 12 ((Tryd.f31.body).getD .skip)) (bodyPost Tryd.prog Tryd.f31 fun e w' => TaskPost D v zs name w e w') ⟨#[.pointer (some ⟨D, 0, none⟩), .string name, .slice sa ss.length sc, .int .i64 weight, .int .i64 stmts, undef, undef, undef, undef, undef, .pointer (some ⟨R, 0, none⟩), .pointer (some ⟨T, 0, none⟩), .pointer (some ⟨M, 0, none⟩), .int .i64 z, u14, u15, u16, u17, .slice Ai L.length ci, u19, u20, u21, u22, u23, u24, u25, u26, u27, u28, u29, u30, u31, u32, u33, u34, u35, u36, u37, u38, u39, u40, u41, u42, u43, u44, u45, u46, u47, u48, u49, u50, u51, u52, u53, u54, u55, u56, u57, u58, u59, u60, u61, u62, u63, u64, u65, u66, u67, u68, u69, u70, u71, u72, u73, u74, u75, u76, u77, u78, u79, u80, u81, u82, u83, u84, u85, u86, u87, u88, u89, u90, u91, u92, u93, u94, u95, u96, u97, u98, u99, u100, u101, u102, u103, u104, u105, u106, u107, u108, u109, u110, u111, u112, u113, u114, u115, u116, u117, u118, u119, u120, u121, u122, u123, u124, u125, u126, u127, u128, u129, u130, u131, u132, u133, u134, u135, u136, u137, u138, u139, u140, u141, u142, u143, u144, u145, u146, u147, u148, u149, u150, u151, u152, u153, u154, u155, u156, u157, u158, u159, u160, u161, u162, u163, u164, u165, u166, u167, u168, u169, u170, u171, u172, u173, u174, u175, u176, u177, u178, u179, u180, u181, u182, u183, u184, u185, u186, u187, u188, u189, u190, u191, u192, u193, u194, u195, u196, u197, u198, u199, u200, u201, u202, u203, u204, u205, u206, u207, u208, u209, u210, u211, u212, u213, u214, u215, u216, u217, u218, u219, u220], []⟩ wc := by
  conv => arg 2; whnf
  conv => arg 4; zeta
  go_upto_block 2 with fail
  go_cut [] from 20 (fun wx => ∃ (k : Nat) (cl : List (Int × Int)) (A9 : Option Addr) (c9 : Nat) (rs : List RowR), k ≤ t.len ∧ Hid (ClOk cl ∧ TB (⟨D, R, T, v, zs, w⟩ : Tx) (tC name per dl pri jit (.slice A5 l.length c5) (.slice (some ⟨g6, 0, none⟩) 3 3) (.slice A7 ars.length c7) (.slice A8 mds.length c8) (.slice A9 cl.length c9) (.slice Ab k cb)) rs t Ab wx ∧ (A9, cl.length, c9, 2, cl.flatMap clCells) ∈ rs ∧ ∀ r ∈ [(A8, mds.length, c8, 4, mds.flatMap mdCells), (A7, ars.length, c7, 2, ars.flatMap arCells), (A5, l.length, c5, 3, l.flatMap inCells), iknR g6], r ∈ rs))
  case first =>
    go_wp2_with fail
    go_loopw [] (fun wr => ∃ (k : Nat) (cl : List (Int × Int)) (A9 : Option Addr) (c9 : Nat) (rs : List RowR), k ≤ t.len ∧ Hid (ClOk cl ∧ TB (⟨D, R, T, v, zs, w⟩ : Tx) (tC name per dl pri jit (.slice A5 l.length c5) (.slice (some ⟨g6, 0, none⟩) 3 3) (.slice A7 ars.length c7) (.slice A8 mds.length c8) (.slice A9 cl.length c9) (.slice Ab k cb)) rs t Ab wr ∧ (A9, cl.length, c9, 2, cl.flatMap clCells) ∈ rs ∧ ∀ r ∈ [(A8, mds.length, c8, 4, mds.flatMap mdCells), (A7, ars.length, c7, 2, ars.flatMap arCells), (A5, l.length, c5, 3, l.flatMap inCells), iknR g6], r ∈ rs)) (fun wr => match wr.cell? ⟨T, 10, none⟩ with | some (.slice _ n _) => n | _ => 0)
    case atStart =>
      obtain ⟨rs, hp, hsub⟩ := HC.out.2
      exact ⟨t.len, cls, A9, c9, _, Nat.le_refl _, Lib.hid ⟨HC.out.1, hp, List.mem_cons_self .., fun r hr => by
        have hin := hsub r
        simp only [List.mem_cons, List.not_mem_nil, or_false] at hr
        rcases hr with rfl | rfl | rfl | rfl
        · exact List.mem_cons_of_mem _ (hin (by simp))
        · exact List.mem_cons_of_mem _ (hin (List.mem_cons_of_mem _ (List.mem_cons_of_mem _ (HSub.out _ (by simp)))))
        · exact List.mem_cons_of_mem _ (hin (List.mem_cons_of_mem _ (List.mem_cons_of_mem _ (HSub.out _ (by simp)))))
        · exact List.mem_cons_of_mem _ (hin (List.mem_cons_of_mem _ (List.mem_cons_of_mem _ (HSub.out _ (by simp)))))⟩⟩
    case round =>
      clear HC
      obtain ⟨k, cl, A9, c9, rs, hk, hR⟩ := hrel
      have c10 : wr.cell? ⟨T, 10, none⟩ = some (.slice Ab k cb) := hR.out.2.1.base.tb.cell 10
      have hcb := HG.out.2.2.2
      by_cases hk0 : 0 < k
      · obtain ⟨k, rfl⟩ : ∃ q, k = q + 1 := ⟨k - 1, by omega⟩
        have hk0' : (0 : Int) < ((k + 1 : Nat) : Int) := by omega
        obtain ⟨t1, t2, t3, t4, t5, t6, t7⟩ := take_facts HG.out.1 HG.out.2.1 HG.out.2.2.1 hR.out.2.1.tree (k + 1) hk
        have hw := weight_any (t.take (k + 1)) Ab cb _ wr t4 t5 t7
        have hbw := stW_bounds (t.take (k + 1)) 1
        rw [t1] at hw hbw
        generalize stW (k + 1) 1 ((t.take (k + 1)).wadd 1 0) = wv at hw hbw
        have HW := Lib.hid hw
        unfold mostW at hbw
        obtain ⟨w0', w1'⟩ := hbw
        clear hw t1 t2 t3 t4 t5 t6 t7
        go_wp2_with fail
        refine HW.out.mono ?_
        rintro e W30 ⟨rfl, hb⟩
        have HB30 := Lib.hid (hR.out.2.1.below hb)
        have d10 : W30.cell? ⟨T, 10, none⟩ = some (.slice Ab (k + 1) cb) := HB30.out.base.tb.cell 10
        have f10 : W30.frozen? ⟨T, 10, none⟩ = false := HB30.out.base.tb.frozen 10
        have d9 : W30.cell? ⟨T, 9, none⟩ = some (.slice A9 cl.length c9) := HB30.out.base.tb.cell 9
        have f9 : W30.frozen? ⟨T, 9, none⟩ = false := HB30.out.base.tb.frozen 9
        clear hb HW
        by_cases hgt : weight < wv
        · have e1 : ((k + 1 : Nat) : Int) - 1 = k := by omega
          have hk10 : k ≤ 10 := by have := HG.out.2.2.1; omega
          have e6 : wrap64 (k : Int) = k := wrap_eq k hk10
          have e3 : k ≤ cb := Nat.le_trans (Nat.le_of_succ_le hk) hcb
          clear hk10 hcb e1
          have hb31 : TB (⟨D, R, T, v, zs, w⟩ : Tx) (tC name per dl pri jit (.slice A5 l.length c5) (.slice (some ⟨g6, 0, none⟩) 3 3) (.slice A7 ars.length c7) (.slice A8 mds.length c8) (.slice A9 cl.length c9) (.slice Ab k cb)) rs t Ab (W30.setCell ⟨T, 10, none⟩ (.slice Ab k cb)) := HB30.out.setT 10 (.slice Ab k cb)
          have hb32 : TB (⟨D, R, T, v, zs, w⟩ : Tx) (tC name per dl pri jit (.slice A5 l.length c5) (.slice (some ⟨g6, 0, none⟩) 3 3) (.slice A7 ars.length c7) (.slice A8 mds.length c8) (.slice none ([] : List (Int × Int)).length 0) (.slice Ab k cb)) rs t Ab ((W30.setCell ⟨T, 10, none⟩ (.slice Ab k cb)).setCell ⟨T, 9, none⟩ (.slice none 0 0)) := hb31.setT 9 (.slice none 0 0)
          have HB31 := Lib.hid hb32
          clear hb31 hb32
          go_wp2_with fail
          have d10' : ((W30.setCell ⟨T, 10, none⟩ (.slice Ab k cb)).setCell ⟨T, 9, none⟩ (.slice none 0 0)).cell? ⟨T, 10, none⟩ = some (.slice Ab k cb) := HB31.out.base.tb.cell 10
          clear e6
          go_roundw
          case rel => exact ⟨k, [], none, 0, ((none, 0, 0, 2, []) : RowR) :: rs, Nat.le_of_succ_le hk, Lib.hid ⟨⟨by simp, fun x hx => by cases hx⟩, HB31.out.push (r := (none, 0, 0, 2, [])) Lies.nil, List.mem_cons_self .., fun r hr => List.mem_cons_of_mem _ (hR.out.2.2.2 r hr)⟩⟩
          case measure => simp [c10, d10']
        · go_wp2_with fail
          go_meet
          case rel => exact ⟨k + 1, cl, A9, c9, rs, hk, Lib.hid ⟨hR.out.1, HB30.out, hR.out.2.2⟩⟩
      · have hk1 : k = 0 := by omega
        subst hk1
        go_wp2_with fail
        go_meet
        case rel => exact ⟨0, cl, A9, c9, rs, hk, hR⟩
  case rest =>
    clear HC
    obtain ⟨k, cl, A9, c9, rs, hk, HR2⟩ := hcut
    refine ‹∀ (a : Act) (w : World), Code.wp _ _ _ a w → _› _ _ ?_
    exact task_e HN wt0 wt1 st0 st1 HII HIS HR HQ2 HIn HQ5 HAr HMd HSub HG HLb hLl hk HR2
end Go.Proofs.YtbppfhlpielpcaaDoor
