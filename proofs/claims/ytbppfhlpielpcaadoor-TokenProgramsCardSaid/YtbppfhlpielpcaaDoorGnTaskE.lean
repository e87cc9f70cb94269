/- The generator's task. -/
import Derived.Test.YtbppfhlpielpcaaDoorGnTsm
import Derived.Deep.RegionLaw
import Derived.Deep.DeepCutAuto
import Derived.Deep.CutBlock
import Derived.Deep.RegionLawGrows
namespace Go.Proofs.YtbppfhlpielpcaaDoor
open Go.RowKit
set_option linter.unusedVariables false
theorem Tryd.infoIn : (Tryd.prog.info? 72).map (fun i => (i.zero, i.size, i.bytes)) = some (some (.agg #[.string ⟨#[]⟩, .int .i64 0, .int .i64 0]), 3, 32) := by kernel_rfl
/-- What task leaves. -/
def TaskPost (D : Nat) (v : Value) (zs : List Int) (name : ByteArray) (w : World) (e : Ending) (w' : World) : Prop :=
  ∃ (t : Tsk) (xs : List Value), e = .returned (.agg xs.toArray) ∧ t.Ok ∧ t.name = name ∧ t.Row w' (fun b => b ≠ D ∧ w.heap.size ≤ b) xs ∧ Deck w' v zs D ∧ Gen D D w.heap.size w w'
abbrev tC (name : ByteArray) (per dl pr ji : Int) (v5 v6 v7 v8 v9 v10 : Value) : Array Value := #[.string name, .int .i64 per, .int .i64 dl, .int .i64 pr, .int .i64 ji, v5, v6, v7, v8, v9, v10]
abbrev ikn : List ByteArray := [⟨#[105]⟩, ⟨#[107]⟩, ⟨#[110]⟩]
abbrev iknV : List Value := [.string ⟨#[105]⟩, .string ⟨#[107]⟩, .string ⟨#[110]⟩]
abbrev iknO : Obj := .cells #[.string ⟨#[105]⟩, .string ⟨#[107]⟩, .string ⟨#[110]⟩] 9
abbrev iknR (g : Nat) : RowR := (some ⟨g, 0, none⟩, 3, 3, 1, iknV)
abbrev nms (l : List (ByteArray × Int × Int)) : List ByteArray := l.map (·.1)
abbrev nilS : Value := .slice none 0 0
/-- Before the task's block is there. -/
structure T0 (D R : Nat) (v : Value) (zs : List Int) (w0 W : World) : Prop where
  deck : Deck W v zs D
  gen : Gen D D w0.heap.size w0 W
  rb : Blk W R 66 zTk
  num : D < w0.heap.size ∧ w0.heap.size ≤ R
theorem In.rng {n r : Int} (h : In n r) (hn : 1 ≤ n) : 0 ≤ r ∧ r < n := ⟨h.1, by have := h.1; have := h.2; omega⟩
section
variable {D R : Nat} {v : Value} {zs : List Int} {w0 W W' : World}
theorem T0.next (h : T0 D R v zs w0 W) (n : Int) (hn : 0 ≤ n ∧ n ≤ 1000000) :
    Calls Tryd.prog 30 #[.pointer (some ⟨D, 0, none⟩), .int .i64 n] W fun e w' => ∃ r : Int, e = .returned (.int .i64 r) ∧ In n r ∧ T0 D R v zs w0 w' :=
  (next_any n D v zs W h.deck hn).mono fun e w' ⟨r, he, h0, h1, hd, hg⟩ => ⟨r, he, ⟨h0, h1⟩, hd, h.gen.trans (hg.only D _), (hg.block R h.rb.lt (by have := h.num; omega) (by have := h.num; omega) (fun q => by have := h.rb.lt; omega)).trans h.rb, h.num⟩
theorem T0.make (h : T0 D R v zs w0 W) (tc : Array Value) : TT ⟨D, R, W.heap.size, v, zs, w0⟩ tc [] (W.alloc (.cells tc 66)) :=
  ⟨h.deck.below ((Below.refl _ _).alloc (Nat.le_refl _) _), h.gen.alloc _, Blk.new _ _ _, h.rb.alloc _, ⟨h.num.1, h.num.2, h.rb.lt⟩, fun r hr => by cases hr⟩
theorem T0.start (hd : Deck W v zs D) : T0 D W.heap.size v zs W (W.alloc (.cells zTk 66)) :=
  ⟨hd.below ((Below.refl _ _).alloc (Nat.le_refl _) _), (Gen.refl _ _ _ _).alloc _, Blk.new _ _ _, hd.lt, Nat.le_refl _⟩
end
theorem wrap_eq (k : Nat) (h : k ≤ 10) : wrap64 (k : Int) = k := IntWalk.wrap64_in _ (by omega)
theorem wrap_facts (k cb : Nat) (h : k ≤ 10) (hc : k ≤ cb) : 0 ≤ wrap64 (k : Int) ∧ wrap64 (k : Int) ≤ (cb : Int) ∧ (wrap64 (k : Int)).toNat = k := by
  have e : wrap64 (k : Int) = k := IntWalk.wrap64_in _ (by omega)
  rw [e]
  exact ⟨by omega, by omega, by omega⟩
/-- The task is handed back. -/
theorem task_fin {D R T : Nat} {v : Value} {zs : List Int} {w W : World} {name : ByteArray} {per dl pri jit : Int} {l : List (ByteArray × Int × Int)} {ars : List (ByteArray × Int)} {mds : List (ByteArray × ByteArray × Int × Int)} {cl : List (Int × Int)} {t : Sts} {A5 A7 A8 A9 Ab : Option Addr} {c5 c7 c8 c9 cb g6 k : Nat} {rs : List RowR}
    (h : TB (⟨D, R, T, v, zs, w⟩ : Tx) (tC name per dl pri jit (.slice A5 l.length c5) (.slice (some ⟨g6, 0, none⟩) 3 3) (.slice A7 ars.length c7) (.slice A8 mds.length c8) (.slice A9 cl.length c9) (.slice Ab k cb)) rs t Ab W)
    (hname : ∃ i : Nat, i < 6 ∧ name = ⟨#[116, UInt8.ofNat (97 + i)]⟩) (hq : (2000 ≤ per ∧ per ≤ 6000) ∧ (1600 ≤ dl ∧ dl ≤ per) ∧ (1 ≤ pri ∧ pri ≤ 5) ∧ (0 ≤ jit ∧ jit ≤ 30)) (hl : l.length ≤ 2 ∧ ∀ x ∈ l, inOk x) (har : ars.length ≤ 1 ∧ ∀ x ∈ ars, Nm x.1 ∧ (1 ≤ x.2 ∧ x.2 ≤ 8))
    (hmd : mds.length ≤ 1 ∧ ∀ x ∈ mds, x.1 = few ∧ Nm x.2.1 ∧ (-2 ≤ x.2.2.1 ∧ x.2.2.1 ≤ 14) ∧ (x.2.2.1 ≤ x.2.2.2 ∧ x.2.2.2 ≤ 14)) (hcl : ClOk cl) (hb : t.Good ∧ t.height ≤ 4 ∧ t.len ≤ 10 ∧ t.len ≤ cb) (hk : k ≤ t.len)
    (h9 : (A9, cl.length, c9, 2, cl.flatMap clCells) ∈ rs) (hrs : ∀ r ∈ ([(A8, mds.length, c8, 4, mds.flatMap mdCells), (A7, ars.length, c7, 2, ars.flatMap arCells), (A5, l.length, c5, 3, l.flatMap inCells), iknR g6] : List RowR), r ∈ rs) :
    TaskPost D v zs name w (.returned (.agg #[.string name, .int .i64 per, .int .i64 dl, .int .i64 pri, .int .i64 jit, .slice A5 l.length c5, .slice (some ⟨g6, 0, none⟩) 3 3, .slice A7 ars.length c7, .slice A8 mds.length c8, .slice A9 cl.length c9, .slice Ab k cb])) (set11 W R (.string name) (.int .i64 per) (.int .i64 dl) (.int .i64 pri) (.int .i64 jit) (.slice A5 l.length c5) (.slice (some ⟨g6, 0, none⟩) 3 3) (.slice A7 ars.length c7) (.slice A8 mds.length c8) (.slice A9 cl.length c9) (.slice Ab k cb)) := by
  have hn := h.base.num
  obtain ⟨q1, q2, q3⟩ := hn
  simp only at q1 q2 q3
  have hk' : ∀ b, b ≠ R → (set11 W R (.string name) (.int .i64 per) (.int .i64 dl) (.int .i64 pri) (.int .i64 jit) (.slice A5 l.length c5) (.slice (some ⟨g6, 0, none⟩) 3 3) (.slice A7 ars.length c7) (.slice A8 mds.length c8) (.slice A9 cl.length c9) (.slice Ab k cb)).heap[b]? = W.heap[b]? := fun b hb => set11_heap hb
  have hz : W.heap.size ≤ (set11 W R (.string name) (.int .i64 per) (.int .i64 dl) (.int .i64 pri) (.int .i64 jit) (.slice A5 l.length c5) (.slice (some ⟨g6, 0, none⟩) 3 3) (.slice A7 ars.length c7) (.slice A8 mds.length c8) (.slice A9 cl.length c9) (.slice Ab k cb)).heap.size := by rw [set11_size]; exact Nat.le_refl _
  have hrow : ∀ r ∈ rs, Lies (set11 W R (.string name) (.int .i64 per) (.int .i64 dl) (.int .i64 pri) (.int .i64 jit) (.slice A5 l.length c5) (.slice (some ⟨g6, 0, none⟩) 3 3) (.slice A7 ars.length c7) (.slice A8 mds.length c8) (.slice A9 cl.length c9) (.slice Ab k cb)) (fun b => b ≠ D ∧ w.heap.size ≤ b) r.1 r.2.1 r.2.2.1 r.2.2.2.1 r.2.2.2.2 := fun r hr => Lies.keep (h.base.row r hr) hz fun b hb hl => by
    refine ⟨⟨by have := hb.1; simp only at this; omega, hb.1⟩, fun f => World.cell?_of_block (hk' b ?_)⟩
    rintro rfl
    obtain ⟨_, t', ht', _, h2, _⟩ := hb
    have := h.base.rb.tag
    simp only at this
    rw [this] at ht'
    exact h2 (by injection ht' with ht'; exact ht'.symm)
  have htree : (t.take k).At (set11 W R (.string name) (.int .i64 per) (.int .i64 dl) (.int .i64 pri) (.int .i64 jit) (.slice A5 l.length c5) (.slice (some ⟨g6, 0, none⟩) 3 3) (.slice A7 ars.length c7) (.slice A8 mds.length c8) (.slice A9 cl.length c9) (.slice Ab k cb)) (fun b => b ≠ D ∧ w.heap.size ≤ b) Ab := (h.tree.keep hz fun b hb hl => by
    refine ⟨⟨by have := hb.1; simp only at this; omega, hb.1⟩, fun f => World.cell?_of_block (hk' b ?_)⟩
    rintro rfl
    have h2 := h.base.rb.tag
    simp only at h2
    rcases hb.2 with hb | hb <;> (rw [h2] at hb; exact absurd hb (by decide))).take k
  have hlen : (t.take k).len = k := by rw [Sts.take_len]; omega
  have r9 := hrow _ h9
  have r8 := hrow _ (hrs _ (by simp : (A8, mds.length, c8, 4, mds.flatMap mdCells) ∈ _))
  have r7 := hrow _ (hrs _ (by simp : (A7, ars.length, c7, 2, ars.flatMap arCells) ∈ _))
  have r5 := hrow _ (hrs _ (by simp : (A5, l.length, c5, 3, l.flatMap inCells) ∈ _))
  have r6 := hrow _ (hrs _ (by simp : iknR g6 ∈ _))
  refine ⟨⟨name, per, dl, pri, jit, l, ikn, ars, mds, cl, t.take k⟩, [.string name, .int .i64 per, .int .i64 dl, .int .i64 pri, .int .i64 jit, .slice A5 l.length c5, .slice (some ⟨g6, 0, none⟩) 3 3, .slice A7 ars.length c7, .slice A8 mds.length c8, .slice A9 cl.length c9, .slice Ab k cb], rfl, ⟨hname, hq, hl, rfl, har, hmd, hcl, hb.1.take k, Nat.le_trans (Sts.take_height t k) hb.2.1, by rw [hlen]; omega⟩, rfl, ⟨A5, c5, _, 3, A7, c7, A8, c8, A9, c9, Ab, cb, ?_, r5, r6, r7, r8, r9, by rw [hlen]; omega, htree⟩, ?_, ?_⟩
  · simp only [hlen]
    rfl
  · exact h.base.deck.keep hz (hk' D (by omega)) fun b hb => hk' b (by simp only at hb; omega)
  · have hg := h.base.gen
    simp only at hg
    have hs : ∀ {W' : World} (i : Nat) (u : Value), Gen D D w.heap.size w W' → Gen D D w.heap.size w (W'.setCell ⟨R, i, none⟩ u) := fun i u hg => hg.set (.inr (.inr q2)) u
    exact hs 10 _ (hs 9 _ (hs 8 _ (hs 7 _ (hs 6 _ (hs 5 _ (hs 4 _ (hs 3 _ (hs 2 _ (hs 1 _ (hs 0 _ hg))))))))))
/-- What stands behind the first k parts of a body. -/
def dropC : Nat → Code → Code
  | 0, c => c
  | k + 1, .seq _ b => dropC k b
  | _ + 1, c => c
set_option maxRecDepth 1000000 in
set_option maxHeartbeats 40000000 in
theorem task_e {D : Nat} {v : Value} {zs : List Int} {name : ByteArray} {sa : Option Addr} {sc : Nat} {ss : List (ByteArray × Int × ByteArray)} {weight stmts : Int} {w : World} (HN : Hid ((∃ i : Nat, i < 6 ∧ name = ⟨#[116, UInt8.ofNat (97 + i)]⟩) ∧ (Lies w (fun b => b ≠ D) sa ss.length sc 3 (ss.flatMap shCells)) ∧ (ss.length ≤ 1 ∧ ∀ x ∈ ss, Nm x.1 ∧ (1 ≤ x.2.1 ∧ x.2.1 ≤ 8) ∧ Nm x.2.2))) (wt0 : 0 ≤ weight) (wt1 : weight ≤ 1000000) (st0 : 0 ≤ stmts) (st1 : stmts ≤ 100) {iI iS : TypeInfo} (HII : Hid (Tryd.prog.info? 72 = some iI ∧ iI.zero = some (.agg #[.string ⟨#[]⟩, .int .i64 0, .int .i64 0]) ∧ iI.size = 3 ∧ iI.bytes = 32)) (HIS : Hid (Tryd.prog.info? 9 = some iS ∧ iS.zero = some (.string ⟨#[]⟩) ∧ iS.size = 1 ∧ iS.bytes = 16)) {T R : Nat} {per dl pri jit : Int} (HR : Hid (w.heap.size = R)) (HQ2 : Hid ((2000 ≤ per ∧ per ≤ 6000) ∧ (1600 ≤ dl ∧ dl ≤ per) ∧ (1 ≤ pri ∧ pri ≤ 5) ∧ (0 ≤ jit ∧ jit ≤ 30))) {M : Nat} {z : Int} {l : List (ByteArray × Int × Int)} (HIn : Hid (∀ x ∈ l, inOk x)) (HQ5 : Hid (z = l.length ∧ l.length ≤ 2)) {A5 : Option Addr} {c5 : Nat} {Av : Option Addr} {cv : Nat} {g6 : Nat} {ars : List (ByteArray × Int)} {A7 : Option Addr} {c7 : Nat} {A3 : Option Addr} {c3 : Nat} (HAr : Hid (ars.length ≤ 1 ∧ ∀ x ∈ ars, Nm x.1 ∧ (1 ≤ x.2 ∧ x.2 ≤ 8))) {mds : List (ByteArray × ByteArray × Int × Int)} {A8 : Option Addr} {c8 : Nat} (HMd : Hid (mds.length ≤ 1 ∧ ∀ x ∈ mds, x.1 = few ∧ Nm x.2.1 ∧ (-2 ≤ x.2.2.1 ∧ x.2.2.1 ≤ 14) ∧ (x.2.2.1 ≤ x.2.2.2 ∧ x.2.2.2 ≤ 14))) {rst : List RowR} (HSub : Hid (∀ r ∈ [(A3, ars.length, c3, 1, (ars.map (·.1)).map Value.string), (A7, ars.length, c7, 2, ars.flatMap arCells), (Av, l.length + 3, cv, 1, (nms l ++ ikn).map Value.string), (A5, l.length, c5, 3, l.flatMap inCells), iknR g6], r ∈ rst)) {t : Sts} {Ab : Option Addr} {cb : Nat} (HG : Hid (t.Good ∧ t.height ≤ 4 ∧ t.len ≤ 2 * 5 ∧ t.len ≤ cb)) {Ai : Option Addr} {ci : Nat} {L : List Int} (HLb : Hid ((∀ x ∈ L, 1 ≤ x ∧ x ≤ 12) ∧ L.length ≤ 1000000)) (hLl : L.length ≤ 1000000) {u14 u15 u16 u17 u19 u20 u21 u22 u23 u24 u25 u26 u27 u28 u29 u30 u31 u32 u33 u34 u35 u36 u37 u38 u39 u40 u41 u42 u43 u44 u45 u46 u47 u48 u49 u50 u51 u52 u53 u54 u55 u56 u57 u58 u59 u60 u61 u62 u63 u64 u65 u66 u67 u68 u69 u70 u71 u72 u73 u74 u75 u76 u77 u78 u79 u80 u81 u82 u83 u84 u85 u86 u87 u88 u89 u90 u91 u92 u93 u94 u95 u96 u97 u98 u99 u100 u101 u102 u103 u104 u105 u106 u107 u108 u109 u110 u111 u112 u113 u114 u115 u116 u117 u118 u119 u120 u121 u122 u123 u124 u125 u126 u127 u128 u129 u130 u131 u132 u133 u134 u135 u136 u137 u138 u139 u140 u141 u142 u143 u144 u145 u146 u147 u148 u149 u150 u151 u152 u153 u154 u155 u156 u157 u158 u159 u160 u161 u162 u163 u164 u165 u166 u167 u168 u169 u170 u171 u172 u173 u174 u175 u176 u177 u178 u179 u180 u181 u182 u183 u184 u185 u186 u187 u188 u189 u190 u191 u192 u193 u194 u195 u196 u197 u198 u199 u200 u201 u202 u203 u204 u205 u206 u207 u208 u209 u210 u211 u212 u213 u214 u215 u216 u217 u218 u219 u220 : Value} {wc : World} {k : Nat} {cl : List (Int × Int)} {A9 : Option Addr} {c9 : Nat} {rs : List RowR} (hk : k ≤ t.len) (HR2 : Hid (ClOk cl ∧ TB (⟨D, R, T, v, zs, w⟩ : Tx) (tC name per dl pri jit (.slice A5 l.length c5) (.slice (some ⟨g6, 0, none⟩) 3 3) (.slice A7 ars.length c7) (.slice A8 mds.length c8) (.slice A9 cl.length c9) (.slice Ab k cb)) rs t Ab wc ∧ (A9, cl.length, c9, 2, cl.flatMap clCells) ∈ rs ∧ ∀ r ∈ [(A8, mds.length, c8, 4, mds.flatMap mdCells), (A7, ars.length, c7, 2, ars.flatMap arCells), (A5, l.length, c5, 3, l.flatMap inCells), iknR g6], r ∈ rs)) :
    Code.wp Tryd.prog (dropC 13 ((Tryd.f31.body).getD .skip)) (bodyPost Tryd.prog Tryd.f31 fun e w' => TaskPost D v zs name w e w') ⟨#[.pointer (some ⟨D, 0, none⟩), .string name, .slice sa ss.length sc, .int .i64 weight, .int .i64 stmts, undef, undef, undef, undef, undef, .pointer (some ⟨R, 0, none⟩), .pointer (some ⟨T, 0, none⟩), .pointer (some ⟨M, 0, none⟩), .int .i64 z, u14, u15, u16, u17, .slice Ai L.length ci, u19, u20, u21, u22, u23, u24, u25, u26, u27, u28, u29, u30, u31, u32, u33, u34, u35, u36, u37, u38, u39, u40, u41, u42, u43, u44, u45, u46, u47, u48, u49, u50, u51, u52, u53, u54, u55, u56, u57, u58, u59, u60, u61, u62, u63, u64, u65, u66, u67, u68, u69, u70, u71, u72, u73, u74, u75, u76, u77, u78, u79, u80, u81, u82, u83, u84, u85, u86, u87, u88, u89, u90, u91, u92, u93, u94, u95, u96, u97, u98, u99, u100, u101, u102, u103, u104, u105, u106, u107, u108, u109, u110, u111, u112, u113, u114, u115, u116, u117, u118, u119, u120, u121, u122, u123, u124, u125, u126, u127, u128, u129, u130, u131, u132, u133, u134, u135, u136, u137, u138, u139, u140, u141, u142, u143, u144, u145, u146, u147, u148, u149, u150, u151, u152, u153, u154, u155, u156, u157, u158, u159, u160, u161, u162, u163, u164, u165, u166, u167, u168, u169, u170, u171, u172, u173, u174, u175, u176, u177, u178, u179, u180, u181, u182, u183, u184, u185, u186, u187, u188, u189, u190, u191, u192, u193, u194, u195, u196, u197, u198, u199, u200, u201, u202, u203, u204, u205, u206, u207, u208, u209, u210, u211, u212, u213, u214, u215, u216, u217, u218, u219, u220], []⟩ wc := by
  conv => arg 2; whnf
  conv => arg 4; zeta
  have c9' : wc.cell? ⟨T, 9, none⟩ = some (.slice A9 cl.length c9) := HR2.out.2.1.base.tb.cell 9
  have c10 : wc.cell? ⟨T, 10, none⟩ = some (.slice Ab k cb) := HR2.out.2.1.base.tb.cell 10
  go_upto_region 28 with fail
  go_cut [218] from 20 (fun s wx => ∃ b : Bool, s = .bool b ∧ Hid (TB (⟨D, R, T, v, zs, w⟩ : Tx) (tC name per dl pri jit (.slice A5 l.length c5) (.slice (some ⟨g6, 0, none⟩) 3 3) (.slice A7 ars.length c7) (.slice A8 mds.length c8) (.slice A9 cl.length c9) (.slice Ab k cb)) rs t Ab wx))
  case first =>
    by_cases hl : 0 < cl.length
    · have hl' : (0 : Int) < cl.length := by omega
      obtain ⟨t1, t2, t3, t4, t5, t6, t7⟩ := take_facts HG.out.1 HG.out.2.1 HG.out.2.2.1 HR2.out.2.1.tree k hk
      have hw := ifs_any (t.take k) Ab cb _ wc t4 t5 t6 t7
      rw [t1] at hw
      have HW := Lib.hid hw
      clear hw t1 t2 t3 t4 t5 t6 t7
      go_wp2_with fail
      refine HW.out.mono ?_
      rintro e W31 ⟨vi, rfl, hown, hb⟩
      obtain ⟨A', c', rfl, _⟩ := own_src hown (by simp [iv])
      have HB32 := Lib.hid (HR2.out.2.1.below hb)
      generalize (labsD (t.take k) 1 3).length = nl at *
      clear hb hown HW
      go_wp2_with fail
      go_meet
      case rel => exact ⟨_, rfl, HB32⟩
    · have hl0 : cl.length = 0 := by omega
      rw [hl0] at c9'
      go_wp2_with fail
      go_meet
      case rel => exact ⟨false, rfl, Lib.hid HR2.out.2.1⟩
  case rest =>
    obtain ⟨bt, rfl, HB33⟩ := hcut
    clear c9' c10
    go_upto_if 218 with fail
    go_cut [] from 20 (fun wx => ∃ (cl : List (Int × Int)) (A9 : Option Addr) (c9 : Nat) (rs : List RowR), Hid (ClOk cl ∧ TB (⟨D, R, T, v, zs, w⟩ : Tx) (tC name per dl pri jit (.slice A5 l.length c5) (.slice (some ⟨g6, 0, none⟩) 3 3) (.slice A7 ars.length c7) (.slice A8 mds.length c8) (.slice A9 cl.length c9) (.slice Ab k cb)) rs t Ab wx ∧ (A9, cl.length, c9, 2, cl.flatMap clCells) ∈ rs ∧ ∀ r ∈ [(A8, mds.length, c8, 4, mds.flatMap mdCells), (A7, ars.length, c7, 2, ars.flatMap arCells), (A5, l.length, c5, 3, l.flatMap inCells), iknR g6], r ∈ rs))
    case first =>
      cases bt
      · go_wp2_with fail
        go_meet
        case rel => exact ⟨cl, A9, c9, rs, Lib.hid ⟨HR2.out.1, HB33.out, HR2.out.2.2⟩⟩
      · have d9 : wc.cell? ⟨T, 9, none⟩ = some (.slice A9 cl.length c9) := HB33.out.base.tb.cell 9
        have f9 : wc.frozen? ⟨T, 9, none⟩ = false := HB33.out.base.tb.frozen 9
        have hb34 : TB (⟨D, R, T, v, zs, w⟩ : Tx) (tC name per dl pri jit (.slice A5 l.length c5) (.slice (some ⟨g6, 0, none⟩) 3 3) (.slice A7 ars.length c7) (.slice A8 mds.length c8) (.slice none ([] : List (Int × Int)).length 0) (.slice Ab k cb)) rs t Ab (wc.setCell ⟨T, 9, none⟩ (.slice none 0 0)) := HB33.out.setT 9 (.slice none 0 0)
        have HB34 := Lib.hid hb34
        clear hb34
        go_wp2_with fail
        go_meet
        case rel => exact ⟨[], none, 0, ((none, 0, 0, 2, []) : RowR) :: rs, Lib.hid ⟨⟨by simp, fun x hx => by cases hx⟩, HB34.out.push (r := (none, 0, 0, 2, [])) Lies.nil, List.mem_cons_self .., fun r hr => List.mem_cons_of_mem _ (HR2.out.2.2.2 r hr)⟩⟩
    case rest =>
      obtain ⟨cl', A9', c9', rs', HF⟩ := hcut
      clear HR2 HB33
      obtain ⟨⟨z0, z1, z2, z3, z4, z5, z6, z7, z8, z9, z10⟩, _⟩ := HF.out.2.1.base.tb.eleven
      obtain ⟨⟨y0, y1, y2, y3, y4, y5, y6, y7, y8, y9, y10⟩, f0, f1, f2, f3, f4, f5, f6, f7, f8, f9, f10⟩ := HF.out.2.1.base.rb.eleven
      simp only at z0 z1 z2 z3 z4 z5 z6 z7 z8 z9 z10 y0 y1 y2 y3 y4 y5 y6 y7 y8 y9 y10 f0 f1 f2 f3 f4 f5 f6 f7 f8 f9 f10
      go_wp2_with fail
      exact bodyPost_ret (v := .agg #[.string name, .int .i64 per, .int .i64 dl, .int .i64 pri, .int .i64 jit, .slice A5 l.length c5, .slice (some ⟨g6, 0, none⟩) 3 3, .slice A7 ars.length c7, .slice A8 mds.length c8, .slice A9' cl'.length c9', .slice Ab k cb]) (by simp [results, Tryd.results31, go_sem, y0, y1, y2, y3, y4, y5, y6, y7, y8, y9, y10]) rfl
        (task_fin HF.out.2.1 HN.out.1 HQ2.out ⟨HQ5.out.2, HIn.out⟩ HAr.out HMd.out HF.out.1 HG.out hk HF.out.2.2.1 HF.out.2.2.2)
end Go.Proofs.YtbppfhlpielpcaaDoor
