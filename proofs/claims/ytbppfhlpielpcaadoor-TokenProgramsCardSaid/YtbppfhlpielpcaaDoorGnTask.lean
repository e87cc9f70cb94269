/- The generator's task, whole. -/
import Derived.Test.YtbppfhlpielpcaaDoorGnTaskB
namespace Go.Proofs.YtbppfhlpielpcaaDoor
open Go.RowKit
set_option linter.unusedVariables false
set_option maxRecDepth 100000 in
set_option maxHeartbeats 40000000 in
theorem task_any (D : Nat) (v : Value) (zs : List Int) (name : ByteArray) (sa : Option Addr) (sc : Nat) (ss : List (ByteArray × Int × ByteArray)) (weight stmts : Int) (w : World) (hd : Deck w v zs D) (hname : ∃ i : Nat, i < 6 ∧ name = ⟨#[116, UInt8.ofNat (97 + i)]⟩)
    (hsh : Lies w (fun b => b ≠ D) sa ss.length sc 3 (ss.flatMap shCells)) (hss : ss.length ≤ 1 ∧ ∀ x ∈ ss, Nm x.1 ∧ (1 ≤ x.2.1 ∧ x.2.1 ≤ 8) ∧ Nm x.2.2) (hwt : 0 ≤ weight ∧ weight ≤ 1000000) (hst : 0 ≤ stmts ∧ stmts ≤ 100) :
    Calls Tryd.prog 31 #[.pointer (some ⟨D, 0, none⟩), .string name, .slice sa ss.length sc, .int .i64 weight, .int .i64 stmts] w fun e w' => TaskPost D v zs name w e w' := by
  have H0 := Lib.hid (T0.start hd)
  have HN := Lib.hid (And.intro hname (And.intro hsh hss))
  obtain ⟨wt0, wt1⟩ := hwt
  obtain ⟨st0, st1⟩ := hst
  obtain ⟨iI, hi0, hz0, hz1, hz2⟩ := info_parts Tryd.infoIn
  have HII := Lib.hid (And.intro hi0 (And.intro hz0 (And.intro hz1 hz2)))
  clear hi0 hz0 hz1 hz2
  obtain ⟨iS, hi0, hz0, hz1, hz2⟩ := info_parts Tryd.infoStr
  have HIS := Lib.hid (And.intro hi0 (And.intro hz0 (And.intro hz1 hz2)))
  clear hi0 hz0 hz1 hz2
  clear hd hname hsh hss
  go_enter Tryd.func31, Tryd.ntmps31
  go_wp2_with fail
  refine (H0.out.next 9 (by omega)).mono ?_
  rintro e W1 ⟨r1, rfl, hr1, h1⟩
  obtain ⟨q10, q11⟩ := hr1.rng (by omega)
  have H1 := Lib.hid h1
  clear h1 H0 hr1
  go_wp2_with fail
  refine (H1.out.next 5 (by omega)).mono ?_
  rintro e W2 ⟨r2, rfl, hr2, h2⟩
  obtain ⟨q20, q21⟩ := hr2.rng (by omega)
  have H2 := Lib.hid h2
  clear h2 H1 hr2
  go_wp2_with fail
  refine (H2.out.next 4 (by omega)).mono ?_
  rintro e W3 ⟨r3, rfl, hr3, h3⟩
  obtain ⟨q30, q31⟩ := hr3.rng (by omega)
  have H3 := Lib.hid (h3.make (tC name (2000 + r1 * 500) 0 (1 + r2) (r3 * 10) nilS nilS nilS nilS nilS nilS))
  clear h3 H2 hr3
  go_upto_region 2 with fail
  have c1 := H3.out.drew.tb.cell 1
  have HQ := Lib.hid (And.intro q10 (And.intro q11 (And.intro q20 (And.intro q21 (And.intro q30 q31)))))
  go_cut [] from 20 (fun wx => ∃ dl : Int, (1600 ≤ dl ∧ dl ≤ 2000 + r1 * 500) ∧ Hid (TT (⟨D, w.heap.size, W3.heap.size, v, zs, w⟩ : Tx) (tC name (2000 + r1 * 500) dl (1 + r2) (r3 * 10) nilS nilS nilS nilS nilS nilS) [] wx))
  case first =>
    go_region_held3 (fun w' => w'.cell? ⟨W3.heap.size, 1, none⟩ = some (.int .i64 (2000 + r1 * 500)))
      (first | (with_reducible assumption) | exact c1 | (exact (World.cell?_setCell_other _ _ _ _ (by simp)).trans c4) | (simp [*]; done))
      (first | (go_at_call 30; refine (H3.out.drew.next 5 (by omega)).mono ?_; rintro e w4 ⟨r, rfl, hr, h4⟩; obtain ⟨q40, q41⟩ := hr.rng (by omega); have c4 : w4.cell? ⟨W3.heap.size, 1, none⟩ = some (.int .i64 (2000 + r1 * 500)) := h4.tb.cell 1; have f2 : w4.frozen? ⟨W3.heap.size, 2, none⟩ = false := h4.tb.frozen 2; have c2 : w4.cell? ⟨W3.heap.size, 2, none⟩ = some (.int .i64 0) := h4.tb.cell 2))
    go_wp2_with fail
    go_meet
    case rel =>
      have e1 : IntKind.i64.wrap (r * 100) = r * 100 := IntWalk.i64_in _ (by omega)
      have e2 : IntKind.i64.wrap (2000 + r1 * 500 - r * 100) = 2000 + r1 * 500 - r * 100 := IntWalk.i64_in _ (by omega)
      rw [e1, e2]
      exact ⟨2000 + r1 * 500 - r * 100, ⟨by omega, by omega⟩, Lib.hid (h4.setT 2 _)⟩
  case rest =>
    obtain ⟨dl, ⟨d0, d1⟩, H4⟩ := hcut
    clear c1 H3
    generalize W3.heap.size = T at *
    generalize hR : w.heap.size = R at *
    have HR := Lib.hid hR
    clear hR
    have HQ2 := Lib.hid (show (2000 ≤ 2000 + r1 * 500 ∧ 2000 + r1 * 500 ≤ 6000) ∧ (1600 ≤ dl ∧ dl ≤ 2000 + r1 * 500) ∧ (1 ≤ 1 + r2 ∧ 1 + r2 ≤ 5) ∧ (0 ≤ r3 * 10 ∧ r3 * 10 ≤ 30) by have := HQ.out; omega)
    clear HQ d0 d1
    generalize 2000 + r1 * 500 = per at *
    generalize 1 + r2 = pri at *
    generalize r3 * 10 = jit at *
    go_wp2_with fail
    generalize hM : wc.heap.size = M at *
    obtain ⟨HP, hPs⟩ : ∃ h : TP (⟨D, R, T, v, zs, w⟩ : Tx) M (tC name per dl pri jit nilS nilS nilS nilS nilS nilS) (mC D nilS nilS sa ss.length sc stmts) [] (wc.alloc (.cells (mC D nilS nilS sa ss.length sc stmts) 94)), True := ⟨by subst hM; exact H4.out.box _, trivial⟩
    have HM := Lib.hid hM
    replace HP := Lib.hid HP
    clear hM hPs H4
    go_loopw [13] (fun i wr => ∃ (z : Int) (l : List (ByteArray × Int × Int)), i = .int .i64 z ∧ 0 ≤ z ∧ z ≤ 2 ∧ Hid (z = l.length ∧ ∃ v5 vv, TS (⟨D, R, T, v, zs, w⟩ : Tx) M (tC name per dl pri jit v5 nilS nilS nilS nilS nilS) (mC D vv nilS sa ss.length sc stmts) l (l.map (·.1)) v5 vv [] wr ∧ ∀ x ∈ l, inOk x)) (fun i _ => 2 - (intOf i).toNat)
    case atStart => exact ⟨0, [], rfl, by omega, by omega, Lib.hid ⟨rfl, nilS, nilS, ⟨HP.out, World.ownsRow_nil _ _ _ _, World.ownsRow_nil _ _ _ _⟩, fun x hx => by cases hx⟩⟩
    case round =>
      clear HP HM
      obtain ⟨z, l, rfl, hz0, hz2, hR⟩ := hrel
      obtain ⟨hz, v5, vv, hS, hin⟩ := hR.out
      have HZ := Lib.hid hz
      have HS := Lib.hid hS
      have HIn := Lib.hid hin
      clear hS hin hR hz
      go_wp2_with fail
      refine (HS.out.next 3 (by omega)).mono ?_
      rintro e W5 ⟨r, rfl, hr, hS5⟩
      obtain ⟨q50, q51⟩ := hr.rng (by omega)
      have HS5 := Lib.hid hS5
      clear hS5 hr HS
      by_cases hlt : z < r
      · have hk : z = 0 ∨ z = 1 := by omega
        rcases hk with rfl | rfl
        · skip
          go_wp2_with fail
          refine ((HS5.out.alloc _).next 6 (by omega)).mono ?_
          rintro e W6 ⟨lo, rfl, hlo, hS6⟩
          obtain ⟨q60, q61⟩ := hlo.rng (by omega)
          have HS6 := Lib.hid hS6
          have c5 : W6.drew.cell? ⟨T, 5, none⟩ = some v5 := hS6.p.1.tb.cell 5
          clear hS6 HS5 hlo
          go_upto_region 10 with fail
          go_region_law (first
            | (refine step_append_lies _ rfl (.tmp 61) (.tmp 69) 60 rfl _ 72 iI _ 3 32 Tryd.underlying60 HII.out.1 HII.out.2.1 HII.out.2.2.1 HII.out.2.2.2 rfl (by decide) v5 l.length (l.flatMap inCells) (by simp [Act.eval]) (HS7.out.alloc _).rin ⟨W7.heap.size, 0, none⟩ 1 1 (inCells (⟨#[120]⟩, lo - 2, IntKind.i64.wrap (lo - 2 + hi))) (by simp [Act.eval]) rfl (blk_news (Blk.new _ _ _)) (by intro u hu; simp [inCells] at hu; rcases hu with rfl | rfl | rfl <;> rfl) (by omega) (by unfold maxLen; have := HZ.out; omega) (by have := HZ.out; omega) (Nat.le_of_lt (HS7.out.alloc _).p.size) _ rfl ?_; intro g cap W8 hown8 hgrow8 _ _; have HS8 := Lib.hid ((HS7.out.alloc _).app5 hown8 hgrow8); have e5 : W8.cell? ⟨T, 5, none⟩ = some v5 := HS8.out.p.1.tb.cell 5; have f5 : W8.frozen? ⟨T, 5, none⟩ = false := HS8.out.p.1.tb.frozen 5; clear hown8 hgrow8)
            | (go_simp; go_at_call 30; refine (HS6.out.drew.next 12 (by omega)).mono ?_; rintro e W7 ⟨hi, rfl, hhi, hS7⟩; obtain ⟨q70, q71⟩ := hhi.rng (by omega); have HS7 := Lib.hid hS7; have d5 : W7.cell? ⟨T, 5, none⟩ = some v5 := hS7.p.1.tb.cell 5; have d5a : ∀ o, (W7.alloc o).cell? ⟨T, 5, none⟩ = some v5 := fun o => (HS7.out.alloc o).p.1.tb.cell 5; clear hS7 hhi))
          all_goals
            have wr1 : IntKind.i64.wrap (lo - 2 + hi) = lo - 2 + hi := IntWalk.i64_in _ (by omega)
            rw [wr1] at HS8
            have HS9 := Lib.hid (HS8.out.setT 5 (.slice (some ⟨g, 0, none⟩) (l.length + 1) cap))
            have m1 : (W8.setCell ⟨T, 5, none⟩ (.slice (some ⟨g, 0, none⟩) (l.length + 1) cap)).cell? ⟨M, 1, none⟩ = some vv := HS9.out.p.2.1.cell 1
            replace HS9 : Hid (TS (⟨D, R, T, v, zs, w⟩ : Tx) M (tC name per dl pri jit (.slice (some ⟨g, 0, none⟩) (l.length + 1) cap) nilS nilS nilS nilS nilS) (mC D vv nilS sa ss.length sc stmts) (l ++ [(⟨#[120]⟩, lo - 2, lo - 2 + hi)]) (l.map (·.1)) (.slice (some ⟨g, 0, none⟩) (l.length + 1) cap) vv [] (W8.setCell ⟨T, 5, none⟩ (.slice (some ⟨g, 0, none⟩) (l.length + 1) cap))) := HS9
            generalize W8.setCell ⟨T, 5, none⟩ (.slice (some ⟨g, 0, none⟩) (l.length + 1) cap) = W9 at *
            clear HS8 HS7 HS6 e5 f5 wr1
            go_wp2_with (at_builtin; refine wpList_append_src rfl (.tmp 76) (.tmp 78) 28 rfl _ 9 iS _ 1 16 Tryd.underlying28 HIS.out.1 HIS.out.2.1 HIS.out.2.2.1 HIS.out.2.2.2 rfl (by decide) vv (l.map (·.1)).length ((l.map (·.1)).map Value.string) rfl (HS9.out.alloc _).rvs _ _ _ [Value.string ⟨#[120]⟩] rfl ⟨rfl, .inr ⟨_, rfl, cell_one_new _ _ _⟩⟩ (fun u hu => by simp at hu; subst hu; rfl) (by unfold maxLen; have := HZ.out; simp only [List.length_map]; omega) (by have := HZ.out; simp only [List.length_map]; omega) (Nat.le_of_lt (HS9.out.alloc _).p.size) ?_; intro v2 W10 hown10 hgrow10; obtain ⟨g2, cap2, rfl, _, _⟩ := own_form hown10 (by omega); have HS10 := Lib.hid ((HS9.out.alloc _).appV (ys := [⟨#[120]⟩]) hown10 hgrow10 (fun r hr => by cases hr)); have m1' : W10.cell? ⟨M, 1, none⟩ = some vv := HS10.out.p.2.1.cell 1; have f1' : W10.frozen? ⟨M, 1, none⟩ = false := HS10.out.p.2.1.frozen 1; clear hown10 hgrow10)
            have HS11 := HS10.out.setM 1 (Value.slice (some ⟨g2, 0, none⟩) (l.length + 1) cap2)
            rw [List.length_map] at HS11
            replace HS11 := Lib.hid HS11
            go_wp2
            go_roundw
            case rel => exact ⟨1, l ++ [(⟨#[120]⟩, lo - 2, lo - 2 + hi)], by first | rfl | go_num, by omega, by omega, Lib.hid ⟨by have := HZ.out; simp only [List.length_append, List.length_cons, List.length_nil]; omega, (.slice (some ⟨g, 0, none⟩) (l.length + 1) cap), (.slice (some ⟨g2, 0, none⟩) (l.length + 1) cap2), by rw [List.map_append]; exact HS11.out, fun x hx => by
              rcases List.mem_append.1 hx with hx | hx
              · exact HIn.out x hx
              · simp only [List.mem_cons, List.not_mem_nil, or_false] at hx
                subst hx
                exact ⟨by unfold Nm nameList; simp, ⟨by show -2 ≤ lo - 2; omega, by show lo - 2 ≤ 3; omega⟩, by show lo - 2 ≤ lo - 2 + hi; omega, by show lo - 2 + hi ≤ lo - 2 + 11; omega⟩⟩⟩
            case measure => simp [intOf]
        · skip
          go_wp2_with fail
          refine ((HS5.out.alloc _).next 6 (by omega)).mono ?_
          rintro e W6 ⟨lo, rfl, hlo, hS6⟩
          obtain ⟨q60, q61⟩ := hlo.rng (by omega)
          have HS6 := Lib.hid hS6
          have c5 : W6.drew.cell? ⟨T, 5, none⟩ = some v5 := hS6.p.1.tb.cell 5
          clear hS6 HS5 hlo
          go_upto_region 10 with fail
          go_region_law (first
            | (refine step_append_lies _ rfl (.tmp 61) (.tmp 69) 60 rfl _ 72 iI _ 3 32 Tryd.underlying60 HII.out.1 HII.out.2.1 HII.out.2.2.1 HII.out.2.2.2 rfl (by decide) v5 l.length (l.flatMap inCells) (by simp [Act.eval]) (HS7.out.alloc _).rin ⟨W7.heap.size, 0, none⟩ 1 1 (inCells (⟨#[121]⟩, lo - 2, IntKind.i64.wrap (lo - 2 + hi))) (by simp [Act.eval]) rfl (blk_news (Blk.new _ _ _)) (by intro u hu; simp [inCells] at hu; rcases hu with rfl | rfl | rfl <;> rfl) (by omega) (by unfold maxLen; have := HZ.out; omega) (by have := HZ.out; omega) (Nat.le_of_lt (HS7.out.alloc _).p.size) _ rfl ?_; intro g cap W8 hown8 hgrow8 _ _; have HS8 := Lib.hid ((HS7.out.alloc _).app5 hown8 hgrow8); have e5 : W8.cell? ⟨T, 5, none⟩ = some v5 := HS8.out.p.1.tb.cell 5; have f5 : W8.frozen? ⟨T, 5, none⟩ = false := HS8.out.p.1.tb.frozen 5; clear hown8 hgrow8)
            | (go_simp; go_at_call 30; refine (HS6.out.drew.next 12 (by omega)).mono ?_; rintro e W7 ⟨hi, rfl, hhi, hS7⟩; obtain ⟨q70, q71⟩ := hhi.rng (by omega); have HS7 := Lib.hid hS7; have d5 : W7.cell? ⟨T, 5, none⟩ = some v5 := hS7.p.1.tb.cell 5; have d5a : ∀ o, (W7.alloc o).cell? ⟨T, 5, none⟩ = some v5 := fun o => (HS7.out.alloc o).p.1.tb.cell 5; clear hS7 hhi))
          all_goals
            have wr1 : IntKind.i64.wrap (lo - 2 + hi) = lo - 2 + hi := IntWalk.i64_in _ (by omega)
            rw [wr1] at HS8
            have HS9 := Lib.hid (HS8.out.setT 5 (.slice (some ⟨g, 0, none⟩) (l.length + 1) cap))
            have m1 : (W8.setCell ⟨T, 5, none⟩ (.slice (some ⟨g, 0, none⟩) (l.length + 1) cap)).cell? ⟨M, 1, none⟩ = some vv := HS9.out.p.2.1.cell 1
            replace HS9 : Hid (TS (⟨D, R, T, v, zs, w⟩ : Tx) M (tC name per dl pri jit (.slice (some ⟨g, 0, none⟩) (l.length + 1) cap) nilS nilS nilS nilS nilS) (mC D vv nilS sa ss.length sc stmts) (l ++ [(⟨#[121]⟩, lo - 2, lo - 2 + hi)]) (l.map (·.1)) (.slice (some ⟨g, 0, none⟩) (l.length + 1) cap) vv [] (W8.setCell ⟨T, 5, none⟩ (.slice (some ⟨g, 0, none⟩) (l.length + 1) cap))) := HS9
            generalize W8.setCell ⟨T, 5, none⟩ (.slice (some ⟨g, 0, none⟩) (l.length + 1) cap) = W9 at *
            clear HS8 HS7 HS6 e5 f5 wr1
            go_wp2_with (at_builtin; refine wpList_append_src rfl (.tmp 76) (.tmp 78) 28 rfl _ 9 iS _ 1 16 Tryd.underlying28 HIS.out.1 HIS.out.2.1 HIS.out.2.2.1 HIS.out.2.2.2 rfl (by decide) vv (l.map (·.1)).length ((l.map (·.1)).map Value.string) rfl (HS9.out.alloc _).rvs _ _ _ [Value.string ⟨#[121]⟩] rfl ⟨rfl, .inr ⟨_, rfl, cell_one_new _ _ _⟩⟩ (fun u hu => by simp at hu; subst hu; rfl) (by unfold maxLen; have := HZ.out; simp only [List.length_map]; omega) (by have := HZ.out; simp only [List.length_map]; omega) (Nat.le_of_lt (HS9.out.alloc _).p.size) ?_; intro v2 W10 hown10 hgrow10; obtain ⟨g2, cap2, rfl, _, _⟩ := own_form hown10 (by omega); have HS10 := Lib.hid ((HS9.out.alloc _).appV (ys := [⟨#[121]⟩]) hown10 hgrow10 (fun r hr => by cases hr)); have m1' : W10.cell? ⟨M, 1, none⟩ = some vv := HS10.out.p.2.1.cell 1; have f1' : W10.frozen? ⟨M, 1, none⟩ = false := HS10.out.p.2.1.frozen 1; clear hown10 hgrow10)
            have HS11 := HS10.out.setM 1 (Value.slice (some ⟨g2, 0, none⟩) (l.length + 1) cap2)
            rw [List.length_map] at HS11
            replace HS11 := Lib.hid HS11
            go_wp2
            go_roundw
            case rel => exact ⟨2, l ++ [(⟨#[121]⟩, lo - 2, lo - 2 + hi)], by first | rfl | go_num, by omega, by omega, Lib.hid ⟨by have := HZ.out; simp only [List.length_append, List.length_cons, List.length_nil]; omega, (.slice (some ⟨g, 0, none⟩) (l.length + 1) cap), (.slice (some ⟨g2, 0, none⟩) (l.length + 1) cap2), by rw [List.map_append]; exact HS11.out, fun x hx => by
              rcases List.mem_append.1 hx with hx | hx
              · exact HIn.out x hx
              · simp only [List.mem_cons, List.not_mem_nil, or_false] at hx
                subst hx
                exact ⟨by unfold Nm nameList; simp, ⟨by show -2 ≤ lo - 2; omega, by show lo - 2 ≤ 3; omega⟩, by show lo - 2 ≤ lo - 2 + hi; omega, by show lo - 2 + hi ≤ lo - 2 + 11; omega⟩⟩⟩
            case measure => simp [intOf]
      · skip
        have HQ5 := Lib.hid (show z = l.length ∧ l.length ≤ 2 by have := HZ.out; omega)
        have a6 : ∀ o, (W5.alloc o).cell? ⟨T, 6, none⟩ = some (.slice none 0 0) := fun o => (HS5.out.alloc o).p.1.tb.cell 6
        have b6 : ∀ o, (W5.alloc o).frozen? ⟨T, 6, none⟩ = false := fun o => (HS5.out.alloc o).p.1.tb.frozen 6
        have n6 := Lib.hid (show vv.ownBlock ≠ some W5.heap.size from fun e => by have := (HS5.out.rvs.lt _ e).2; omega)
        have B6 := Lib.hid ((Blk.new W5 9 #[.string ⟨#[105]⟩, .string ⟨#[107]⟩, .string ⟨#[110]⟩]).far (p := ⟨T, 6, none⟩) (by have := HS5.out.p.1.tb.lt; show W5.heap.size ≠ T; simp only at this; omega) (.slice (some ⟨W5.heap.size, 0, none⟩) 3 3))
        have HS12 := Lib.hid (((HS5.out.alloc (.cells #[.string ⟨#[105]⟩, .string ⟨#[107]⟩, .string ⟨#[110]⟩] 9)).push (row_lit (k := 3) (size := 1) (Blk.new W5 9 #[.string ⟨#[105]⟩, .string ⟨#[107]⟩, .string ⟨#[110]⟩]) (Nat.le_of_lt HS5.out.p.size) (by decide) rfl)).setT 6 (.slice (some ⟨W5.heap.size, 0, none⟩) 3 3))
        clear HZ HS5 hz0 hz2
        go_upto_region 13 with fail
        replace HS12 : Hid (TS (⟨D, R, T, v, zs, w⟩ : Tx) M (tC name per dl pri jit v5 (.slice (some ⟨W5.heap.size, 0, none⟩) 3 3) nilS nilS nilS nilS) (mC D vv nilS sa ss.length sc stmts) l (l.map (·.1)) v5 vv [iknR W5.heap.size] ((W5.alloc (.cells #[.string ⟨#[105]⟩, .string ⟨#[107]⟩, .string ⟨#[110]⟩] 9)).setCell ⟨T, 6, none⟩ (.slice (some ⟨W5.heap.size, 0, none⟩) 3 3))) := HS12
        clear a6 b6
        generalize hW12 : (W5.alloc (.cells #[.string ⟨#[105]⟩, .string ⟨#[107]⟩, .string ⟨#[110]⟩] 9)).setCell ⟨T, 6, none⟩ (.slice (some ⟨W5.heap.size, 0, none⟩) 3 3) = W12 at *
        generalize W5.heap.size = g6 at *
        clear hW12
        have c6 : W12.cell? ⟨T, 6, none⟩ = some (.slice (some ⟨g6, 0, none⟩) 3 3) := HS12.out.p.1.tb.cell 6
        have m1 : W12.cell? ⟨M, 1, none⟩ = some vv := HS12.out.p.2.1.cell 1
        go_cut [] from 20 (fun wx => ∃ A5 c5 Av cv, Hid (TP (⟨D, R, T, v, zs, w⟩ : Tx) M (tC name per dl pri jit (.slice A5 l.length c5) (.slice (some ⟨g6, 0, none⟩) 3 3) nilS nilS nilS nilS) (mC D (.slice Av (l.length + 3) cv) nilS sa ss.length sc stmts) [(Av, l.length + 3, cv, 1, (nms l ++ ikn).map Value.string), (A5, l.length, c5, 3, l.flatMap inCells), iknR g6] wx))
        case first =>
          go_region_law (first
            | (refine step_append_lies _ rfl (.tmp 88) (.tmp 90) 28 rfl _ 9 iS _ 1 16 Tryd.underlying28 HIS.out.1 HIS.out.2.1 HIS.out.2.2.1 HIS.out.2.2.2 rfl (by decide) vv (l.map (·.1)).length ((l.map (·.1)).map Value.string) (by simp [Act.eval]) HS12.out.drew.rvs ⟨g6, 0, none⟩ 3 3 [.string ⟨#[105]⟩, .string ⟨#[107]⟩, .string ⟨#[110]⟩] (by simp [Act.eval]) rfl (blk_news B6.out.drew) (by intro u hu; simp at hu; rcases hu with rfl | rfl | rfl <;> rfl) (by omega) (by unfold maxLen; have := HQ5.out; simp only [List.length_map]; omega) (by have := HQ5.out; simp only [List.length_map]; omega) (Nat.le_of_lt HS12.out.p.size) _ rfl ?_; intro g cap W13 hown13 hgrow13 _ _; have HS13 := Lib.hid (HS12.out.drew.appV (ys := [⟨#[105]⟩, ⟨#[107]⟩, ⟨#[110]⟩]) hown13 hgrow13 (fun r hr b f e => by simp only [List.mem_cons, List.not_mem_nil, or_false] at hr; subst hr; simp only [Option.some.injEq, Addr.mk.injEq] at e; rw [← e.1]; exact n6.out)); have m1' : W13.cell? ⟨M, 1, none⟩ = some vv := HS13.out.p.2.1.cell 1; have f1' : W13.frozen? ⟨M, 1, none⟩ = false := HS13.out.p.2.1.frozen 1; clear hown13 hgrow13))
          all_goals
            go_wp2_with fail
            go_meet
            case rel =>
              have h := HS13.out.setM 1 (Value.slice (some ⟨g, 0, none⟩) ((l.map (·.1)).length + 3) cap)
              obtain ⟨A5, c5, Av, cv, e5, ev, hp⟩ := h.done
              simp only [List.length_append, List.length_map, List.length_cons, List.length_nil] at ev hp
              injection ev with ev1 _ ev2
              subst e5 ev1 ev2
              exact ⟨A5, c5, _, _, Lib.hid hp⟩
        case rest =>
          obtain ⟨A5, c5, Av, cv, HP⟩ := hcut
          refine ‹∀ (a : Act) (w : World), Code.wp _ _ _ a w → _› _ _ ?_
          exact task_b HN wt0 wt1 st0 st1 HII HIS HR HQ2 HIn HQ5 HP
end Go.Proofs.YtbppfhlpielpcaaDoor
