/- The generator's task: from behind the modes. -/
import Derived.Test.YtbppfhlpielpcaaDoorGnTaskD
namespace Go.Proofs.YtbppfhlpielpcaaDoor
open Go.RowKit
set_option linter.unusedVariables false
set_option maxRecDepth 1000000 in
set_option maxHeartbeats 40000000 in
theorem task_c {D : Nat} {v : Value} {zs : List Int} {name : ByteArray} {sa : Option Addr} {sc : Nat} {ss : List (ByteArray × Int × ByteArray)} {weight stmts : Int} {w : World} (HN : Hid ((∃ i : Nat, i < 6 ∧ name = ⟨#[116, UInt8.ofNat (97 + i)]⟩) ∧ (Lies w (fun b => b ≠ D) sa ss.length sc 3 (ss.flatMap shCells)) ∧ (ss.length ≤ 1 ∧ ∀ x ∈ ss, Nm x.1 ∧ (1 ≤ x.2.1 ∧ x.2.1 ≤ 8) ∧ Nm x.2.2))) (wt0 : 0 ≤ weight) (wt1 : weight ≤ 1000000) (st0 : 0 ≤ stmts) (st1 : stmts ≤ 100) {iI iS : TypeInfo} (HII : Hid (Tryd.prog.info? 72 = some iI ∧ iI.zero = some (.agg #[.string ⟨#[]⟩, .int .i64 0, .int .i64 0]) ∧ iI.size = 3 ∧ iI.bytes = 32)) (HIS : Hid (Tryd.prog.info? 9 = some iS ∧ iS.zero = some (.string ⟨#[]⟩) ∧ iS.size = 1 ∧ iS.bytes = 16)) {T R : Nat} {per dl pri jit : Int} (HR : Hid (w.heap.size = R)) (HQ2 : Hid ((2000 ≤ per ∧ per ≤ 6000) ∧ (1600 ≤ dl ∧ dl ≤ per) ∧ (1 ≤ pri ∧ pri ≤ 5) ∧ (0 ≤ jit ∧ jit ≤ 30))) {M : Nat} {z : Int} {l : List (ByteArray × Int × Int)} (HIn : Hid (∀ x ∈ l, inOk x)) (HQ5 : Hid (z = l.length ∧ l.length ≤ 2)) {A5 : Option Addr} {c5 : Nat} {Av : Option Addr} {cv : Nat} {g6 : Nat} {ars : List (ByteArray × Int)} {A7 : Option Addr} {c7 : Nat} {A3 : Option Addr} {c3 : Nat} (HAr : Hid (ars.length ≤ 1 ∧ ∀ x ∈ ars, Nm x.1 ∧ (1 ≤ x.2 ∧ x.2 ≤ 8))) {mds : List (ByteArray × ByteArray × Int × Int)} {A8 : Option Addr} {c8 : Nat} {u14 u15 u16 u17 u20 u21 u22 u23 u24 u25 u26 u27 u28 u29 u30 u31 u32 u33 u34 u35 u36 u37 u38 u39 u40 u41 u42 u43 u44 u45 u46 u47 u48 u49 u50 u51 u52 u53 u54 u55 u56 u57 u58 u59 u60 u61 u62 u63 u64 u65 u66 u67 u68 u69 u70 u71 u72 u73 u74 u75 u76 u77 u78 u79 u80 u81 u82 u83 u84 u85 u86 u87 u88 u89 u90 u91 u92 u93 u94 u95 u96 u97 u98 u99 u100 u101 u102 u103 u104 u105 u106 u107 u108 u109 u110 u111 u112 u113 u114 u115 u116 u117 u118 u119 u120 u121 u122 u123 u124 u125 u126 u127 u128 u129 u130 u131 u132 u133 u134 u135 u136 u137 u138 u139 u140 u141 u142 u143 u144 u145 u146 u147 u148 u149 u150 u151 u152 u153 u154 u155 u156 u157 u158 u159 u160 u161 u162 u163 u164 u165 u166 u167 u168 u169 u170 u171 u172 u173 u174 u175 u176 u177 u178 u179 u180 u181 u182 u183 u184 u185 u186 u187 u188 u189 u190 u191 u192 u193 u194 u195 u196 u197 u198 u199 u200 u201 u202 u203 u204 u205 u206 u207 u208 u209 u210 u211 u212 u213 u214 u215 u216 u217 u218 u219 u220 : Value} {wc : World} (HM2 : Hid ((mds.length ≤ 1 ∧ ∀ x ∈ mds, x.1 = few ∧ Nm x.2.1 ∧ (-2 ≤ x.2.2.1 ∧ x.2.2.1 ≤ 14) ∧ (x.2.2.1 ≤ x.2.2.2 ∧ x.2.2.2 ≤ 14)) ∧ ∃ rest, TP (⟨D, R, T, v, zs, w⟩ : Tx) M (tC name per dl pri jit (.slice A5 l.length c5) (.slice (some ⟨g6, 0, none⟩) 3 3) (.slice A7 ars.length c7) (.slice A8 mds.length c8) nilS nilS) (mC D (.slice Av (l.length + 3) cv) (.slice A3 ars.length c3) sa ss.length sc stmts) ((A8, mds.length, c8, 4, mds.flatMap mdCells) :: rest) wc ∧ ∀ r ∈ [(A3, ars.length, c3, 1, (ars.map (·.1)).map Value.string), (A7, ars.length, c7, 2, ars.flatMap arCells), (Av, l.length + 3, cv, 1, (nms l ++ ikn).map Value.string), (A5, l.length, c5, 3, l.flatMap inCells), iknR g6], r ∈ rest)) :
    Code.wp Tryd.prog (dropC 9 ((Tryd.f31.body).getD .skip)) (bodyPost Tryd.prog Tryd.f31 fun e w' => TaskPost D v zs name w e w') ⟨#[.pointer (some ⟨D, 0, none⟩), .string name, .slice sa ss.length sc, .int .i64 weight, .int .i64 stmts, undef, undef, undef, undef, undef, .pointer (some ⟨R, 0, none⟩), .pointer (some ⟨T, 0, none⟩), .pointer (some ⟨M, 0, none⟩), .int .i64 z, u14, u15, u16, u17, undef, undef, u20, u21, u22, u23, u24, u25, u26, u27, u28, u29, u30, u31, u32, u33, u34, u35, u36, u37, u38, u39, u40, u41, u42, u43, u44, u45, u46, u47, u48, u49, u50, u51, u52, u53, u54, u55, u56, u57, u58, u59, u60, u61, u62, u63, u64, u65, u66, u67, u68, u69, u70, u71, u72, u73, u74, u75, u76, u77, u78, u79, u80, u81, u82, u83, u84, u85, u86, u87, u88, u89, u90, u91, u92, u93, u94, u95, u96, u97, u98, u99, u100, u101, u102, u103, u104, u105, u106, u107, u108, u109, u110, u111, u112, u113, u114, u115, u116, u117, u118, u119, u120, u121, u122, u123, u124, u125, u126, u127, u128, u129, u130, u131, u132, u133, u134, u135, u136, u137, u138, u139, u140, u141, u142, u143, u144, u145, u146, u147, u148, u149, u150, u151, u152, u153, u154, u155, u156, u157, u158, u159, u160, u161, u162, u163, u164, u165, u166, u167, u168, u169, u170, u171, u172, u173, u174, u175, u176, u177, u178, u179, u180, u181, u182, u183, u184, u185, u186, u187, u188, u189, u190, u191, u192, u193, u194, u195, u196, u197, u198, u199, u200, u201, u202, u203, u204, u205, u206, u207, u208, u209, u210, u211, u212, u213, u214, u215, u216, u217, u218, u219, u220], []⟩ wc := by
  conv => arg 2; whnf
  conv => arg 4; zeta
  have HMd := Lib.hid HM2.out.1
  obtain ⟨rst, hp, hsub⟩ := HM2.out.2
  have HPc := Lib.hid hp
  have HSub := Lib.hid hsub
  have hmk := TP.mks (vs := nms l ++ ikn) (ars := ars.map (·.1)) hp (by simp) (List.length_map ..) (List.mem_cons_of_mem _ (hsub _ (by simp))) (List.mem_cons_of_mem _ (hsub _ (by simp))) HN.out.2.1
    ⟨by simp, by have := HQ5.out; simp; omega, by have := HAr.out.1; simp; omega, HN.out.2.2.1, fun x hx => by
      rcases List.mem_append.1 hx with hx | hx
      · obtain ⟨y, hy, rfl⟩ := List.mem_map.1 hx
        exact (HIn.out y hy).1
      · simp only [List.mem_cons, List.not_mem_nil, or_false] at hx
        rcases hx with rfl | rfl | rfl <;> (unfold Nm nameList; simp), fun x hx => by
      obtain ⟨y, hy, rfl⟩ := List.mem_map.1 hx
      exact (HAr.out.2 y hy).1, fun x hx => ⟨(HN.out.2.2.2 x hx).1, (HN.out.2.2.2 x hx).2.2⟩⟩ ⟨st0, st1⟩
  have HMk := Lib.hid hmk
  clear HM2 hp hsub hmk
  go_wp2_with fail
  refine (body_mk _ wc HMk.out).mono ?_
  rintro e W22 ⟨t, vb, s', rfl, ho, _, hlen, hm, hg, _⟩
  obtain ⟨Ab, cb, rfl, hcb, hat⟩ := ho.at
  obtain ⟨_, _, _, hgood, hh⟩ := ho
  have HG := Lib.hid (And.intro hgood (And.intro hh (And.intro hlen hcb)))
  have HB22 := Lib.hid (TB.mk (HPc.out.body hm.deck hg) (hat.keep (Nat.le_refl _) fun b hb hl => ⟨⟨by have := hb.1; have := HPc.out.1.gen.size; omega, hb.2⟩, fun _ => rfl⟩))
  have a10 : W22.cell? ⟨T, 10, none⟩ = some (.slice none 0 0) := HB22.out.base.tb.cell 10
  have b10 : W22.frozen? ⟨T, 10, none⟩ = false := HB22.out.base.tb.frozen 10
  have HB23 := Lib.hid (HB22.out.setT 10 (.slice Ab t.len cb))
  clear hlen hm hg hcb hat hgood hh HMk
  go_upto_region 22 with fail
  replace HB23 : Hid (TB (⟨D, R, T, v, zs, w⟩ : Tx) (tC name per dl pri jit (.slice A5 l.length c5) (.slice (some ⟨g6, 0, none⟩) 3 3) (.slice A7 ars.length c7) (.slice A8 mds.length c8) nilS (.slice Ab t.len cb)) ((A8, mds.length, c8, 4, mds.flatMap mdCells) :: rst) t Ab (W22.setCell ⟨T, 10, none⟩ (.slice Ab t.len cb))) := HB23
  generalize W22.setCell ⟨T, 10, none⟩ (.slice Ab t.len cb) = W23 at *
  clear a10 b10 HB22 HPc
  have c10 : W23.cell? ⟨T, 10, none⟩ = some (.slice Ab t.len cb) := HB23.out.base.tb.cell 10
  go_wp2_with fail
  refine (ifs_any t Ab cb _ W23 HG.out.1.wf (by have := HG.out.2.2.1; unfold maxLen; omega) (cnt_body HG.out.1 HG.out.2.1 (by have := HG.out.2.2.1; omega)) HB23.out.tree).mono ?_
  rintro e W24 ⟨vi, rfl, hown, hb⟩
  obtain ⟨Ai, ci, rfl, hri⟩ := row_own (own_down hown (B' := w.heap.size) (by have := HB23.out.base.gen.size; exact this)) (by decide) (by simp [iv])
  have HLb := Lib.hid (And.intro (labsD_good t 1 3 HG.out.1) (Nat.le_trans (labsD_len t 1 3) (cnt_body HG.out.1 HG.out.2.1 (by have := HG.out.2.2.1; omega))))
  have HB24 := Lib.hid ((HB23.out.below hb).push hri)
  clear hown hb hri HB23 c10
  generalize labsD t 1 3 = L at *
  have hLl : L.length ≤ 1000000 := HLb.out.2
  go_upto_region 23 with fail
  go_cut [160] from 20 (fun s wx => ∃ b : Bool, s = .bool b ∧ (b = true → 1 < L.length) ∧ Hid (TB (⟨D, R, T, v, zs, w⟩ : Tx) (tC name per dl pri jit (.slice A5 l.length c5) (.slice (some ⟨g6, 0, none⟩) 3 3) (.slice A7 ars.length c7) (.slice A8 mds.length c8) nilS (.slice Ab t.len cb)) ((Ai, L.length, ci, 1, iv L) :: (A8, mds.length, c8, 4, mds.flatMap mdCells) :: rst) t Ab wx))
  case first =>
    by_cases hl : 1 < L.length
    · have hl' : (1 : Int) < L.length := by omega
      go_wp2_with fail
      refine (HB24.out.next 2 (by omega)).mono ?_
      rintro e W25 ⟨q, rfl, hq, hp⟩
      have HP18 := Lib.hid hp
      clear hp hq
      go_wp2_with fail
      go_meet
      case rel => exact ⟨_, rfl, fun _ => hl, HP18⟩
    · have hl' : ¬ (1 : Int) < L.length := by omega
      go_wp2_with fail
      go_meet
      case rel => exact ⟨false, rfl, (fun h => by cases h), HB24⟩
  case rest =>
    obtain ⟨bt, rfl, hbt, HB25⟩ := hcut
    clear HB24
    go_upto_if 160 with fail
    go_cut [] from 20 (fun wx => ∃ cls : List (Int × Int), ∃ A9 c9, Hid ((cls.length ≤ 1 ∧ ∀ x ∈ cls, (1 ≤ x.1 ∧ x.1 ≤ 12) ∧ (1 ≤ x.2 ∧ x.2 ≤ 12)) ∧ ∃ rs, TB (⟨D, R, T, v, zs, w⟩ : Tx) (tC name per dl pri jit (.slice A5 l.length c5) (.slice (some ⟨g6, 0, none⟩) 3 3) (.slice A7 ars.length c7) (.slice A8 mds.length c8) (.slice A9 cls.length c9) (.slice Ab t.len cb)) ((A9, cls.length, c9, 2, cls.flatMap clCells) :: rs) t Ab wx ∧ ∀ r ∈ ((Ai, L.length, ci, 1, iv L) :: (A8, mds.length, c8, 4, mds.flatMap mdCells) :: rst), r ∈ rs))
    case first =>
      cases bt
      · go_wp2_with fail
        go_meet
        case rel => exact ⟨[], none, 0, Lib.hid ⟨⟨by simp, fun x hx => by cases hx⟩, _, HB25.out.push (r := (none, 0, 0, 2, [])) Lies.nil, fun r hr => hr⟩⟩
      · have hl := hbt rfl
        have hl' : (1 : Int) < L.length := by omega
        go_wp2_with fail
        refine (HB25.out.next L.length (by omega)).mono ?_
        rintro e W26 ⟨ka, rfl, hq, hp⟩
        obtain ⟨ka0, ka1⟩ := hq.rng (by omega)
        obtain ⟨ka, rfl⟩ := Int.eq_ofNat_of_zero_le ka0
        have HB26 := Lib.hid hp
        clear hp hq HB25
        have hka : ka < L.length := by omega
        obtain ⟨bi, fi, rfl, hci⟩ := (HB26.out.base.row (Ai, L.length, ci, 1, iv L) (by simp)).cells (by omega)
        have z0 : ¬ (L.length : Int) = 0 := by omega
        have z1 : ¬ L = [] := by intro e; rw [e] at hl; simp at hl
        have q0 : IntKind.i64.wrap ((L.length : Int) - 1) = (L.length : Int) - 1 := IntWalk.i64_in _ (by omega)
        have q1 : IntKind.i64.wrap ((ka : Int) + 1) = (ka : Int) + 1 := IntWalk.i64_in _ (by omega)
        obtain ⟨g, hg⟩ := iv_fun L
        have HGf := Lib.hid hg
        have x0 : ∀ j, j < L.length → W26.drew.cell? ⟨bi, fi + j, none⟩ = some (.int .i64 (g j)) := fun j hj => hci j _ (hg j hj).1
        clear hci hg
        go_upto_region 25 with fail
        go_region_held3 (fun w' => ∀ j, j < L.length → w'.cell? ⟨bi, fi + j, none⟩ = some (.int .i64 (g j)))
          (first | (with_reducible assumption) | exact x0 | (with_reducible exact x1) | (with_reducible exact x2 _) | exact x3 _ _)
          (first | (go_at_call 30; refine (HB26.out.drew.next ((L.length : Int) - 1) (by omega)).mono ?_; rintro e W27 ⟨r27, rfl, hr, hp⟩; obtain ⟨r0, r1⟩ := hr.rng (by omega); obtain ⟨kb, hkb, ekb⟩ := idx_mod ka r27 L.length hka r0 (by omega); have HB27 := Lib.hid hp; obtain ⟨bi', fi', ei, hci⟩ := (HB27.out.base.row (some ⟨bi, fi, none⟩, L.length, ci, 1, iv L) (by simp)).cells (by omega); have x1 : ∀ j, j < L.length → W27.cell? ⟨bi, fi + j, none⟩ = some (.int .i64 (g j)) := rows_cells HGf.out ei hci; have x2 : ∀ o, ∀ j, j < L.length → (W27.alloc o).cell? ⟨bi, fi + j, none⟩ = some (.int .i64 (g j)) := (fun o => by obtain ⟨bi2, fi2, ei2, hci2⟩ := (((HB27.out.alloc o).base.row (some ⟨bi, fi, none⟩, L.length, ci, 1, iv L) (by simp)).cells (by omega)); exact rows_cells HGf.out ei2 hci2); have x3 : ∀ o u, ∀ j, j < L.length → ((W27.alloc o).setCell ⟨T, 9, none⟩ u).cell? ⟨bi, fi + j, none⟩ = some (.int .i64 (g j)) := (fun o u => by obtain ⟨bi2, fi2, ei2, hci2⟩ := ((((HB27.out.alloc o).setT 9 u).base.row (some ⟨bi, fi, none⟩, L.length, ci, 1, iv L) (by simp)).cells (by omega)); exact rows_cells HGf.out ei2 hci2); have q2 : IntKind.i64.wrap ((ka : Int) + 1 + r27) = (ka : Int) + 1 + r27 := IntWalk.i64_in _ (by omega); have a9 : ∀ o, (W27.alloc o).cell? ⟨T, 9, none⟩ = some (.slice none 0 0) := fun o => (HB27.out.alloc o).base.tb.cell 9; have b9 : ∀ o, (W27.alloc o).frozen? ⟨T, 9, none⟩ = false := fun o => (HB27.out.alloc o).base.tb.frozen 9; clear hp hr ei hci))
        have HB28 := Lib.hid (((HB27.out.alloc (.cells #[.int .i64 (g ka), .int .i64 (g kb)] 76)).push (row_lit (k := 1) (size := 2) (Blk.new W27 76 #[.int .i64 (g ka), .int .i64 (g kb)]) (by have := HB27.out.base.gen.size; exact this) (by decide) rfl)).setT 9 (.slice (some ⟨W27.heap.size, 0, none⟩) 1 1))
        clear x0 x1 x2 x3
        go_wp2_with fail
        go_meet
        case rel => exact ⟨[(g ka, g kb)], some ⟨W27.heap.size, 0, none⟩, 1, Lib.hid ⟨⟨by simp, fun x hx => by
          simp only [List.mem_cons, List.not_mem_nil, or_false] at hx
          subst hx
          exact ⟨HLb.out.1 _ (HGf.out ka hka).2, HLb.out.1 _ (HGf.out kb hkb).2⟩⟩, _, HB28.out, fun r hr => hr⟩⟩
    case rest =>
      obtain ⟨cls, A9, c9, HC⟩ := hcut
      refine ‹∀ (a : Act) (w : World), Code.wp _ _ _ a w → _› _ _ ?_
      exact task_d HN wt0 wt1 st0 st1 HII HIS HR HQ2 HIn HQ5 HAr HMd HSub HG HLb hLl HC
end Go.Proofs.YtbppfhlpielpcaaDoor
