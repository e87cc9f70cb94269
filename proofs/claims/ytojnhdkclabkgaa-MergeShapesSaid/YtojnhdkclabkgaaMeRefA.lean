/- The specification of layer 12: Before. No condition. -/
import Derived.Test.YtojnhdkclabkgaaMeRws
import Derived.Test.YtojnhdkclabkgaaMeBef
import Derived.Test.YtojnhdkclabkgaaGrRefA
import Derived.LoopTactic
import Derived.Deep.DeepCutAuto
import Derived.Deep.CutBlock
import Derived.StillTailTactics
namespace Go.Proofs.Ytojnhdkclabkgaa
open Go.RowKit
set_option linter.unusedVariables false
set_option linter.unusedSimpArgs false
attribute [local go_sem] y_undef
/-- What Before answers. -/
def BefPost (l : List Gr.Blk) (w : World) (e : Ending) (w' : World) : Prop := ∃ y us, e = .returned y ∧ Below w.heap.size w w' ∧ Lst (w.heap.size + 1) w' y us (Me.bef l)
/-- Before's box and its rows. -/
structure Bs (w : World) (gc : Array Value) (y : Value) (us : List Value) (ts : List (List Int)) (u : World) : Prop where
  low : Below w.heap.size w u
  gb : Bk u w.heap.size 40 gc
  lst : Lst (w.heap.size + 1) u y us ts
theorem Bs.below {w u u' : World} {gc : Array Value} {y : Value} {us : List Value} {ts : List (List Int)} (h : Bs w gc y us ts u) (hb : Below u.heap.size u u') : Bs w gc y us ts u' := ⟨blt h.low hb, h.gb.below hb, h.lst.below hb⟩
/-- One number more in row k. -/
theorem Bs.put {w u u0 u1 : World} {gc : Array Value} {us : List Value} {ts : List (List Int)} {gy cy k n : Nat} {x' : Value} {q : List Int} (h : Bs w gc (.slice (some ⟨gy, 0, none⟩) n cy) us ts u) (hn : n = ts.length) (hk : k < ts.length) (hb0 : Below u.heap.size u u0) (hg : u0.grownBy u1 (us.getD k nl).ownBlock) (hown : u1.ownsRow (w.heap.size + 1) 3 1 x' q.length (q.map (.int .i64))) (hv : x'.ownBlock = (us.getD k nl).ownBlock ∨ x'.ownBlock = some u0.heap.size) :
    Bs w gc (.slice (some ⟨gy, 0, none⟩) n cy) (us.set k x') (ts.set k q) (u1.setCell ⟨gy, k, none⟩ x') := by
  have h0 := h.below hb0
  subst hn
  have hr := h0.lst.rws.row k hk
  have hgl : w.heap.size + 1 ≤ gy := (h0.lst.out.lt gy rfl).1
  have hb1 : Below w.heap.size w u1 := h0.low.grown hg h0.low.size (fun j hj => by have := (hr.lt j hj).1; omega)
  refine ⟨hb1.setCell (by show w.heap.size ≤ gy; omega) _, (bk_grown_b h0.gb hr (by omega) hg).far (by show w.heap.size ≠ gy; omega) _, h0.lst.put hk hg hown hv⟩
set_option maxHeartbeats 4000000 in
set_option maxRecDepth 100000 in
theorem rbefore_any (Ai Aa Ab Ap Ah : Option Addr) (ni ci na ca nb cb np cp nh ch : Nat) (V K S : Int) (l : List Gr.Blk) (w : World) (hv : BlksIn w (.slice Ab nb cb) l) (hm : nb ≤ 64) (h2 : ∀ k, k < l.length → (l.getD k Gr.blk0).next.length ≤ 2)
    (hx : ∀ k, k < l.length → ∀ x ∈ (l.getD k Gr.blk0).next, 1 ≤ x ∧ x < (l.length : Int)) (hd : ∀ k, k < l.length → (l.getD k Gr.blk0).next.Nodup) :
    Calls Try.prog 70 #[.agg #[.slice Ai ni ci, .int .i64 V, .int .i64 K, .slice Aa na ca, .int .i64 S, .slice Ab nb cb, .slice Ap np cp, .slice Ah nh ch]] w (BefPost l w) := by
  obtain ⟨A, c, a1, a2, c1, c2, hA, ho⟩ := id hv
  injection hA with hA1 hA2 hA3
  subst hA1 hA3
  have HO := Lib.hid ho
  have HN := Lib.hid (And.intro h2 (And.intro hx hd))
  have HL := Lib.hid hA2
  rw [← hA2] at HO HN
  clear hv ho h2 hx hd
  obtain ⟨iTN, hi0, hz0, hz1, hz2⟩ := info_parts rw_info
  have HTN := Lib.hid (And.intro hi0 (And.intro hz0 (And.intro hz1 hz2)))
  clear hi0 hz0 hz1 hz2
  have hmk := make_lsts nb (by omega)
  have HS := Lib.hid (show Bs w #[.slice Ai ni ci, .int .i64 V, .int .i64 K, .slice Aa na ca, .int .i64 S, .slice Ab nb cb, .slice Ap np cp, .slice Ah nh ch] (.slice (some ⟨w.heap.size + 1, 0, none⟩) nb nb) (List.replicate nb nl) (Me.befK l 0) ((w.alloc (.cells #[.slice Ai ni ci, .int .i64 V, .int .i64 K, .slice Aa na ca, .int .i64 S, .slice Ab nb cb, .slice Ap np cp, .slice Ah nh ch] 40)).alloc (.cells (slRow nb (fun _ => .slice none 0 0)) 32)) from by
    have h := lst_made (base := w.heap.size + 1) (w.alloc (.cells #[.slice Ai ni ci, .int .i64 V, .int .i64 K, .slice Aa na ca, .int .i64 S, .slice Ab nb cb, .slice Ap np cp, .slice Ah nh ch] 40)) nb (by rw [size_alloc]; exact Nat.le_refl _) (by omega)
    rw [size_alloc] at h
    refine ⟨bla (bla (Below.refl _ _) _) _, (Bk.new w _ _).below (bla (Below.refl _ _) _), ?_⟩
    unfold Me.befK
    rw [← hA2]
    exact h)
  have g5 := (Bk.new w 40 #[.slice Ai ni ci, .int .i64 V, .int .i64 K, .slice Aa na ca, .int .i64 S, .slice Ab nb cb, .slice Ap np cp, .slice Ah nh ch]).cell 5
  clear hA2
  go_enter Try.func70, Try.ntmps70
  go_wp2
  clear hmk g5
  generalize hW : World.alloc _ (.cells (slRow nb (fun _ => .slice none 0 0)) 32) = W0 at HS ⊢
  clear hW
  go_loopw [4, 5, 6] (fun i _ _ wr => ∃ (k : Nat) (us : List Value), k ≤ nb ∧ i = .int .i64 k ∧ Hid (Bs w #[.slice Ai ni ci, .int .i64 V, .int .i64 K, .slice Aa na ca, .int .i64 S, .slice Ab nb cb, .slice Ap np cp, .slice Ah nh ch] (.slice (some ⟨w.heap.size + 1, 0, none⟩) nb nb) us (Me.befK l k) wr)) (fun i _ _ _ => nb - (intOf i).toNat)
  case atStart => exact ⟨0, _, Nat.zero_le _, rfl, HS⟩
  case round =>
    clear HS
    obtain ⟨k, us, hk, rfl, HS⟩ := hrel
    have g5 := HS.out.gb.cell 5
    by_cases hlt : k < nb
    · have hlt' : (k : Int) < nb := by omega
      have hlt0 : (0 : Int) ≤ (k : Int) := by omega
      obtain ⟨bo, off, rfl, hbo, x0, x1, x2, hops, hnx⟩ := HO.out k hlt
      have x2w := x2
      replace x0 := (HS.out.low.cell (p := ⟨bo, off + k * 3, none⟩) hbo).trans x0
      replace x1 := (HS.out.low.cell (p := ⟨bo, off + k * 3 + 1, none⟩) hbo).trans x1
      replace x2 := (HS.out.low.cell (p := ⟨bo, off + k * 3 + 2, none⟩) hbo).trans x2
      have hbw : bo < wr.heap.size := Nat.lt_of_lt_of_le hbo HS.out.low.size
      have HX := Lib.hid (And.intro hbo (And.intro x2w (And.intro hlt hnx)))
      have HE := Lib.hid (show Me.befK l k = Me.befJ l k 0 from (Me.befJ_zero l k).symm)
      have HA1 := Lib.hid (Me.befJ_all l k)
      have HB2 := Lib.hid (HN.out.1 k (HL.out ▸ hlt))
      have HBx := Lib.hid (HN.out.2.1 k (HL.out ▸ hlt))
      have HBd := Lib.hid (HN.out.2.2 k (HL.out ▸ hlt))
      clear hops hnx x2w
      obtain ⟨nq, hnq⟩ : ∃ n, (l.getD k Gr.blk0).next.length = n := ⟨_, rfl⟩
      have HQl := Lib.hid hnq
      have HSj := Lib.hid (HE.out ▸ HS.out)
      obtain ⟨A', c', hA', hqo⟩ := HX.out.2.2.2.opened
      injection hA' with hA1 hA2 hA3
      subst hA1 hA3
      have HNx := Lib.hid hqo
      have hnq2 := HB2.out
      rw [hnq] at x2 HA1 HNx HX hnq2
      clear hnq x0 x1 hA2 hqo HB2 HS hlt0
      go_wp2
      go_loopw [5, 6] (fun i _ wr => ∃ (q : Nat) (us : List Value), q ≤ nq ∧ i = .int .i64 q ∧ Hid (Bs w #[.slice Ai ni ci, .int .i64 V, .int .i64 K, .slice Aa na ca, .int .i64 S, .slice (some ⟨bo, off, none⟩) nb cb, .slice Ap np cp, .slice Ah nh ch] (.slice (some ⟨w.heap.size + 1, 0, none⟩) nb nb) us (Me.befJ l k q) wr)) (fun i _ _ => nq - (intOf i).toNat)
      case atStart => exact ⟨0, _, Nat.zero_le _, rfl, HSj⟩
      case round =>
        clear HSj x2 g5 hbw
        obtain ⟨q, us, hq, rfl, HU⟩ := hrel
        have g5 := HU.out.gb.cell 5
        have x2 := (HU.out.low.cell (p := ⟨bo, off + k * 3 + 2, none⟩) HX.out.1).trans HX.out.2.1
        have hbw : bo < wr.heap.size := Nat.lt_of_lt_of_le HX.out.1 HU.out.low.size
        by_cases hlq : q < nq
        · have hlq' : (q : Int) < nq := by omega
          have hlq0 : (0 : Int) ≤ (q : Int) := by omega
          have HQj := Lib.hid (Me.befJ_succ l k (show q < (l.getD k Gr.blk0).next.length by rw [HQl.out]; exact hlq))
          have HQlt := Lib.hid (Me.befJ_lt (HL.out ▸ HBx.out) HBd.out (show q < (l.getD k Gr.blk0).next.length by rw [HQl.out]; exact hlq))
          have hzr := HBx.out _ (Me.getD_mem (d := (0 : Int)) (show q < (l.getD k Gr.blk0).next.length by rw [HQl.out]; exact hlq))
          obtain ⟨bq, oq, eq, hbq, hxq⟩ := HNx.out q hlq
          rw [eq] at x2
          replace hxq := (HU.out.low.cell (p := ⟨bq, oq + q, none⟩) hbq).trans hxq
          have hbqw : bq < wr.heap.size := Nat.lt_of_lt_of_le hbq HU.out.low.size
          have HEq := Lib.hid eq
          clear eq
          obtain ⟨z, hz⟩ : ∃ z, (l.getD k Gr.blk0).next.getD q 0 = z := ⟨_, rfl⟩
          rw [hz] at HQj HQlt hzr hxq
          clear hz
          obtain ⟨zn, rfl⟩ : ∃ zn : Nat, z = (zn : Int) := ⟨z.toNat, by omega⟩
          rw [Int.toNat_natCast] at HQj HQlt
          have hzb : zn < nb := by omega
          have HZl := Lib.hid (show zn < (Me.befJ l k q).length by rw [Me.befJ_len, ← HL.out]; exact hzb)
          have HSm := Lib.hid (Me.befJ_small (HL.out ▸ HN.out.1) (HL.out ▸ HN.out.2.1) (j := q) (show k < l.length by rw [← HL.out]; exact hlt) (show zn < l.length by rw [← HL.out]; exact hzb))
          have HR := Lib.hid (HU.out.lst.rws.row zn HZl.out)
          have HLn := Lib.hid (show nb = (Me.befJ l k q).length by rw [Me.befJ_len]; exact HL.out)
          have hzc := own_cell nl HU.out.lst.out HZl.out
          have HUs := Lib.hid (rfl : us.getD zn nl = us.getD zn nl)
          obtain ⟨Z, hZ⟩ : ∃ Z, (Me.befJ l k q).getD zn [] = Z := ⟨_, rfl⟩
          rw [hZ] at HQj HQlt HSm HR
          clear hZ
          obtain ⟨A, C, hA⟩ := own_eta HR.out
          have HAe := Lib.hid hA
          rw [hA] at HR hzc
          have hz1 := hzc.1
          clear hA HUs
          have hgl := hzc.2.2.1
          clear hzc
          have hz2 : (zn : Int) < (nb : Int) := by omega
          have hz0 : (0 : Int) ≤ (zn : Int) := by omega
          have hsm := HSm.out
          have HIn := Lib.hid (show Gr.inn (zn : Int) (nb : Int) = true by unfold Gr.inn; simp; omega)
          have HHas := Lib.hid (show ((List.range Z.length).any fun j => decide (Z.getD j 0 = (k : Int))) = false by
            rw [List.any_eq_false]
            intro j hj
            have := HQlt.out _ (Me.getD_mem (d := (0 : Int)) (show j < Z.length by simpa using hj))
            simp
            have h2 : Z.getD j 0 < (k : Int) := this.2
            simp [List.getD] at h2
            omega)
          have HNz := Lib.hid (show NumsIn wr (.slice A Z.length C) Z from RowIn.own HR.out)
          go_wp2_with fail
          refine (rin_any _ _ _ HIn.out _).mono ?_
          rintro e w' ⟨rfl, hw⟩
          obtain rfl := hw.symm
          go_wp2_with fail
          refine (rhas_any A Z.length C (fun j => Z.getD j 0) k false HHas.out _ (fun j hj => by
            obtain ⟨A9, c9, e9, h9⟩ := HNz.out.opened
            injection e9 with e1 e2 e3
            subst e1
            exact h9 j hj) (by unfold maxLen; omega)).mono ?_
          rintro e w' ⟨rfl, hw⟩
          obtain rfl := hw.symm
          clear HHas HNz HIn HQlt
          have hbk : Below wr.heap.size wr (wr.alloc (.cells #[.int .i64 (k : Int)] 3)) := bla (Below.refl _ _) _
          have HQ4 := Lib.hid (show Z.length + 1 ≤ maxLen ∧ (Z.length + 1) * 8 ≤ 140737488355328 ∧ w.heap.size + 1 ≤ (wr.alloc (.cells #[.int .i64 (k : Int)] 3)).heap.size from ⟨by unfold maxLen; omega, by omega, by rw [size_alloc]; omega⟩)
          go_wp2_with (at_builtin; refine wpList_append_row rfl (.tmp 56) (.tmp 58) 32 rfl (w.heap.size + 1) 3 iTN _ 1 8 Try.underlying32 HTN.out.1 HTN.out.2.1 HTN.out.2.2.1 HTN.out.2.2.2 rfl (by decide) _ _ _ rfl (own_below HR.out hbk) _ 1 [Value.int .i64 (k : Int)] rfl (lit_num wr _ _ _ rfl) one_z HQ4.out.1 HQ4.out.2.1 HQ4.out.2.2 ?_)
          intro v1 w1 hown hg hvo
          have HP := Lib.hid (HU.out.put (q := Z ++ [(k : Int)]) (x' := v1) HLn.out HZl.out hbk (HAe.out ▸ hg) (by rw [List.length_append, List.map_append]; exact hown) (by rw [HAe.out, size_alloc]; exact hvo))
          have hb1 : wr.heap.size ≤ w1.heap.size := Nat.le_trans hbk.size hg.size
          have hk1 := own_grown_t ((HU.out.below hbk).lst.out) (own_below HR.out hbk) (by decide) hg
          have hkc := own_cell nl hk1 HZl.out
          obtain ⟨A1, C1, rfl⟩ := own_eta hown
          have r := hkc.1
          have y := hkc.2.1
          clear hk1 hkc hown hg hvo hz1 g5 x2 hxq hbk
          go_upto_region 7 with fail
          rw [← HQj.out] at HP
          generalize hW : World.setCell w1 ⟨w.heap.size + 1, zn, none⟩ _ = W1 at HP ⊢
          clear hW
          go_wp2
          go_roundw
          case rel => exact ⟨q + 1, _, by omega, by first | rfl | go_num, HP⟩
          case measure => simp [intOf]; omega
        · have hlq' : ¬ (q : Int) < nq := by omega
          obtain rfl : nq = q := by omega
          have HSk := Lib.hid (HA1.out ▸ HU.out)
          clear HU
          go_wp2
          go_roundw
          case rel => exact ⟨k + 1, us, by omega, by first | rfl | go_num, HSk⟩
          case measure => simp [intOf]; omega
    · have hlt' : ¬ (k : Int) < nb := by omega
      obtain rfl : k = nb := by omega
      have HF := Lib.hid (show Lst (w.heap.size + 1) wr (.slice (some ⟨w.heap.size + 1, 0, none⟩) k k) us (Me.bef l) from by
        have h := HS.out.lst
        unfold Me.bef
        rw [← HL.out]
        exact h)
      have HB := Lib.hid HS.out.low
      clear HS
      go_wp2
      go_ret
      exact ⟨_, _, rfl, HB.out, HF.out⟩
end Go.Proofs.Ytojnhdkclabkgaa
