/- The code of layer 12: Before. No condition. The code of layer 16: whether blocks stay apart; the first pair. No condition. -/
import Derived.Test.YtojnhdkclabkgaaMeRefA
import Derived.Test.YtojnhdkclabkgaaMeRn
namespace Go.Proofs.Ytojnhdkclabkgaa
open Go.RowKit
set_option linter.unusedVariables false
set_option linter.unusedSimpArgs false
attribute [local go_sem] y_undef
set_option maxHeartbeats 600000 in
set_option maxRecDepth 100000 in
theorem gbefore_any (Ai Aa Ab Ap Ah : Option Addr) (ni ci na ca nb cb np cp nh ch : Nat) (V K S : Int) (l : List Gr.Blk) (w : World) (hv : BlksIn w (.slice Ab nb cb) l) (hm : nb ≤ 64) (h2 : ∀ k, k < l.length → (l.getD k Gr.blk0).next.length ≤ 2)
    (hx : ∀ k, k < l.length → ∀ x ∈ (l.getD k Gr.blk0).next, 1 ≤ x ∧ x < (l.length : Int)) (hd : ∀ k, k < l.length → (l.getD k Gr.blk0).next.Nodup) :
    Calls Try.prog 107 #[.agg #[.slice Ai ni ci, .int .i64 V, .int .i64 K, .slice Aa na ca, .int .i64 S, .slice Ab nb cb, .slice Ap np cp, .slice Ah nh ch]] w (BefPost l w) := by
  obtain ⟨A, c, a1, a2, c1, c2, hA, ho⟩ := id hv
  injection hA with hA1 hA2 hA3
  subst hA1 hA3
  have HO := Lib.hid ho
  have HN := Lib.hid (And.intro h2 (And.intro hx hd))
  have HL := Lib.hid hA2
  rw [← hA2] at HO HN
  clear hv ho h2 hx hd
  obtain ⟨iTN, hi0, hz0, hz1, hz2⟩ := info_parts rw_info
  have HTN := Lib.hid (And.intro hi0 (And.intro hz0 (And.intro hz1 hz2)))
  clear hi0 hz0 hz1 hz2
  have hmk := make_lsts nb (by omega)
  have HS := Lib.hid (show Bs w #[.slice Ai ni ci, .int .i64 V, .int .i64 K, .slice Aa na ca, .int .i64 S, .slice Ab nb cb, .slice Ap np cp, .slice Ah nh ch] (.slice (some ⟨w.heap.size + 1, 0, none⟩) nb nb) (List.replicate nb nl) (Me.befK l 0) ((w.alloc (.cells #[.slice Ai ni ci, .int .i64 V, .int .i64 K, .slice Aa na ca, .int .i64 S, .slice Ab nb cb, .slice Ap np cp, .slice Ah nh ch] 40)).alloc (.cells (slRow nb (fun _ => .slice none 0 0)) 32)) from by
    have h := lst_made (base := w.heap.size + 1) (w.alloc (.cells #[.slice Ai ni ci, .int .i64 V, .int .i64 K, .slice Aa na ca, .int .i64 S, .slice Ab nb cb, .slice Ap np cp, .slice Ah nh ch] 40)) nb (by rw [size_alloc]; exact Nat.le_refl _) (by omega)
    rw [size_alloc] at h
    refine ⟨bla (bla (Below.refl _ _) _) _, (Bk.new w _ _).below (bla (Below.refl _ _) _), ?_⟩
    unfold Me.befK
    rw [← hA2]
    exact h)
  have g5 := (Bk.new w 40 #[.slice Ai ni ci, .int .i64 V, .int .i64 K, .slice Aa na ca, .int .i64 S, .slice Ab nb cb, .slice Ap np cp, .slice Ah nh ch]).cell 5
  clear hA2
  go_enter Try.func107, Try.ntmps107
  go_wp2
  clear hmk g5
  generalize hW : World.alloc _ (.cells (slRow nb (fun _ => .slice none 0 0)) 32) = W0 at HS ⊢
  clear hW
  go_loopw [16, 4, 5, 7, 8] (fun i _ _ _ _ wr => ∃ (k : Nat) (us : List Value), k ≤ nb ∧ i = .int .i64 k ∧ Hid (Bs w #[.slice Ai ni ci, .int .i64 V, .int .i64 K, .slice Aa na ca, .int .i64 S, .slice Ab nb cb, .slice Ap np cp, .slice Ah nh ch] (.slice (some ⟨w.heap.size + 1, 0, none⟩) nb nb) us (Me.befK l k) wr)) (fun i _ _ _ _ _ => nb - (intOf i).toNat)
  case atStart => exact ⟨0, _, Nat.zero_le _, rfl, HS⟩
  case round =>
    clear HS
    obtain ⟨k, us, hk, rfl, HS⟩ := hrel
    have g5 := HS.out.gb.cell 5
    by_cases hlt : k < nb
    · have hlt' : (k : Int) < nb := by omega
      have hlt0 : (0 : Int) ≤ (k : Int) := by omega
      obtain ⟨bo, off, rfl, hbo, x0, x1, x2, hops, hnx⟩ := HO.out k hlt
      have x2w := x2
      replace x0 := (HS.out.low.cell (p := ⟨bo, off + k * 3, none⟩) hbo).trans x0
      replace x1 := (HS.out.low.cell (p := ⟨bo, off + k * 3 + 1, none⟩) hbo).trans x1
      replace x2 := (HS.out.low.cell (p := ⟨bo, off + k * 3 + 2, none⟩) hbo).trans x2
      have hbw : bo < wr.heap.size := Nat.lt_of_lt_of_le hbo HS.out.low.size
      have HX := Lib.hid (And.intro hbo (And.intro x2w (And.intro hlt hnx)))
      have HE := Lib.hid (show Me.befK l k = Me.befJ l k 0 from (Me.befJ_zero l k).symm)
      have HA1 := Lib.hid (Me.befJ_all l k)
      have HB2 := Lib.hid (HN.out.1 k (HL.out ▸ hlt))
      have HBx := Lib.hid (HN.out.2.1 k (HL.out ▸ hlt))
      have HBd := Lib.hid (HN.out.2.2 k (HL.out ▸ hlt))
      clear hops hnx x2w
      obtain ⟨nq, hnq⟩ : ∃ n, (l.getD k Gr.blk0).next.length = n := ⟨_, rfl⟩
      have HQl := Lib.hid hnq
      obtain ⟨A', c', hA', hqo⟩ := HX.out.2.2.2.opened
      injection hA' with hA1 hA2 hA3
      have HNx := Lib.hid hqo
      rw [hnq] at x2 HA1 HNx HB2
      rw [hA1, hA3] at x2
      obtain ⟨no, hno⟩ : ∃ n, (l.getD k Gr.blk0).ops.length = n := ⟨_, rfl⟩
      obtain ⟨co, hco⟩ : ∃ n, (l.getD k Gr.blk0).cond = n := ⟨_, rfl⟩
      rw [hno] at x0
      rw [hco] at x1
      have hnq2 := HB2.out
      have hbk : Below wr.heap.size wr (wr.alloc (.cells #[.slice (a1 k) no (c1 k), .int .i64 co, .slice A' nq c'] 34)) := bla (Below.refl _ _) _
      have HSj := Lib.hid ((HE.out ▸ HS.out).below hbk)
      have HBx5 := Lib.hid (Bk.new wr 34 #[.slice (a1 k) no (c1 k), .int .i64 co, .slice A' nq c'])
      have q2 := HBx5.out.cell 2
      clear hnq hA1 hA2 hA3 hqo HB2 HS hno hco HX
      go_upto_region 5 with fail
      clear x0 x1 x2 g5 hbk
      generalize hW : World.alloc wr (.cells #[.slice (a1 k) no (c1 k), .int .i64 co, .slice A' nq c'] 34) = W1 at HSj HBx5 q2 ⊢
      clear hW
      go_wp2
      clear q2 HBx5
      go_loopw [24, 7, 8] (fun i _ _ wr => ∃ (q : Nat) (us : List Value), q ≤ nq ∧ i = .int .i64 q ∧ Hid (Bs w #[.slice Ai ni ci, .int .i64 V, .int .i64 K, .slice Aa na ca, .int .i64 S, .slice (some ⟨bo, off, none⟩) nb cb, .slice Ap np cp, .slice Ah nh ch] (.slice (some ⟨w.heap.size + 1, 0, none⟩) nb nb) us (Me.befJ l k q) wr)) (fun i _ _ _ => nq - (intOf i).toNat)
      case atStart => exact ⟨0, _, Nat.zero_le _, rfl, HSj⟩
      case round =>
        clear HSj
        obtain ⟨q, us, hq, rfl, HU⟩ := hrel
        have g5 := HU.out.gb.cell 5
        by_cases hlq : q < nq
        · have hlq' : (q : Int) < nq := by omega
          have hlq0 : (0 : Int) ≤ (q : Int) := by omega
          have HQj := Lib.hid (Me.befJ_succ l k (show q < (l.getD k Gr.blk0).next.length by rw [HQl.out]; exact hlq))
          have HQlt := Lib.hid (Me.befJ_lt (HL.out ▸ HBx.out) HBd.out (show q < (l.getD k Gr.blk0).next.length by rw [HQl.out]; exact hlq))
          have hzr := HBx.out _ (Me.getD_mem (d := (0 : Int)) (show q < (l.getD k Gr.blk0).next.length by rw [HQl.out]; exact hlq))
          obtain ⟨bq, oq, rfl, hbq, hxq⟩ := HNx.out q hlq
          replace hxq := (HU.out.low.cell (p := ⟨bq, oq + q, none⟩) hbq).trans hxq
          have hbqw : bq < wr.heap.size := Nat.lt_of_lt_of_le hbq HU.out.low.size
          obtain ⟨z, hz⟩ : ∃ z, (l.getD k Gr.blk0).next.getD q 0 = z := ⟨_, rfl⟩
          rw [hz] at HQj HQlt hzr hxq
          clear hz
          obtain ⟨zn, rfl⟩ : ∃ zn : Nat, z = (zn : Int) := ⟨z.toNat, by omega⟩
          rw [Int.toNat_natCast] at HQj HQlt
          have hzb : zn < nb := by omega
          have HZl := Lib.hid (show zn < (Me.befJ l k q).length by rw [Me.befJ_len, ← HL.out]; exact hzb)
          have HSm := Lib.hid (Me.befJ_small (HL.out ▸ HN.out.1) (HL.out ▸ HN.out.2.1) (j := q) (show k < l.length by rw [← HL.out]; exact hlt) (show zn < l.length by rw [← HL.out]; exact hzb))
          have HR := Lib.hid (HU.out.lst.rws.row zn HZl.out)
          have HLn := Lib.hid (show nb = (Me.befJ l k q).length by rw [Me.befJ_len]; exact HL.out)
          have hzc := own_cell nl HU.out.lst.out HZl.out
          have HUs := Lib.hid (rfl : us.getD zn nl = us.getD zn nl)
          obtain ⟨Z, hZ⟩ : ∃ Z, (Me.befJ l k q).getD zn [] = Z := ⟨_, rfl⟩
          rw [hZ] at HQj HQlt HSm HR
          clear hZ
          obtain ⟨A, C, hA⟩ := own_eta HR.out
          have HAe := Lib.hid hA
          rw [hA] at HR hzc
          have hz1 := hzc.1
          clear hA HUs
          have hgl := hzc.2.2.1
          clear hzc
          have hz2 : (zn : Int) < (nb : Int) := by omega
          have hz0 : (0 : Int) ≤ (zn : Int) := by omega
          have hsm := HSm.out
          have hnz : ¬ ((zn : Int) < 0) := by omega
          have hnn : ¬ ((nb : Int) ≤ (zn : Int)) := by omega
          obtain ⟨m, hm'⟩ : ∃ m, Z.length = m := ⟨_, rfl⟩
          have HM := Lib.hid hm'
          have hm2 : m ≤ 2 * k + 2 := by rw [← hm']; exact hsm
          have HNz := Lib.hid (show NumsIn wr (.slice A Z.length C) Z from RowIn.own HR.out)
          have HCl := Lib.hid (show ∀ p, m = p + 1 → ∃ b off v, A = some ⟨b, off, none⟩ ∧ b < wr.heap.size ∧ wr.cell? ⟨b, off + p, none⟩ = some (.int .i64 v) ∧ v < (k : Int) from fun p h0 => by
            obtain ⟨A9, c9, e9, h9⟩ := HNz.out.opened
            injection e9 with e1 e2 e3
            subst e1
            obtain ⟨b, off, e, hb, hc⟩ := h9 p (by omega)
            exact ⟨b, off, _, e, hb, hc, (HQlt.out _ (Me.getD_mem (d := (0 : Int)) (show p < Z.length by omega))).2⟩)
          rw [hm'] at hz1 HR HAe
          clear hm' hsm HNz
          cases m with
          | zero =>
            clear HCl
            have hbk : Below wr.heap.size wr (wr.alloc (.cells #[.int .i64 (k : Int)] 3)) := bla (Below.refl _ _) _
            have HQ4 := Lib.hid (show Z.length + 1 ≤ maxLen ∧ (Z.length + 1) * 8 ≤ 140737488355328 ∧ w.heap.size + 1 ≤ (wr.alloc (.cells #[.int .i64 (k : Int)] 3)).heap.size from ⟨by rw [HM.out]; unfold maxLen; omega, by rw [HM.out]; omega, by rw [size_alloc]; omega⟩)
            rw [HM.out] at HQ4
            go_wp2_with (at_builtin; refine wpList_append_row rfl (.tmp 61) (.tmp 63) 32 rfl (w.heap.size + 1) 3 iTN _ 1 8 Try.underlying32 HTN.out.1 HTN.out.2.1 HTN.out.2.2.1 HTN.out.2.2.2 rfl (by decide) _ _ _ rfl (own_below HR.out hbk) _ 1 [Value.int .i64 (k : Int)] rfl (lit_num wr _ _ _ rfl) one_z HQ4.out.1 HQ4.out.2.1 HQ4.out.2.2 ?_)
            intro v1 w1 hown hg hvo
            have HP := Lib.hid (HU.out.put (q := Z ++ [(k : Int)]) (x' := v1) HLn.out HZl.out hbk (HAe.out ▸ hg) (by rw [List.length_append, List.map_append, HM.out]; exact hown) (by rw [HAe.out, size_alloc]; exact hvo))
            have hb1 : wr.heap.size ≤ w1.heap.size := Nat.le_trans hbk.size hg.size
            have hk1 := own_grown_t ((HU.out.below hbk).lst.out) (own_below HR.out hbk) (by decide) hg
            have hkc := own_cell nl hk1 HZl.out
            obtain ⟨A1, C1, rfl⟩ := own_eta hown
            have r := hkc.1
            have y := hkc.2.1
            clear hk1 hkc hown hg hvo hz1 g5 hxq hbk
            go_upto_region 12 with fail
            rw [← HQj.out] at HP
            generalize hW : World.setCell w1 ⟨w.heap.size + 1, zn, none⟩ _ = W1 at HP ⊢
            clear hW
            go_wp2
            go_roundw
            case rel => exact ⟨q + 1, _, by omega, by first | rfl | go_num, HP⟩
            case measure => simp [intOf]; omega
          | succ p =>
            obtain ⟨b9, o9, v9, rfl, hb9, hc9, hv9⟩ := HCl.out p rfl
            have hp0 : ¬ ((p : Int) < 0) := by omega
            have hp1 : (p : Int) < (p : Int) + 1 := by omega
            have hp2 : (0 : Int) ≤ (p : Int) := by omega
            have e9 : (v9 == (k : Int)) = false := by simp; omega
            have e9' : ¬ v9 = (k : Int) := by omega
            clear HCl
            have hbk : Below wr.heap.size wr (wr.alloc (.cells #[.int .i64 (k : Int)] 3)) := bla (Below.refl _ _) _
            have HQ4 := Lib.hid (show Z.length + 1 ≤ maxLen ∧ (Z.length + 1) * 8 ≤ 140737488355328 ∧ w.heap.size + 1 ≤ (wr.alloc (.cells #[.int .i64 (k : Int)] 3)).heap.size from ⟨by rw [HM.out]; unfold maxLen; omega, by rw [HM.out]; omega, by rw [size_alloc]; omega⟩)
            rw [HM.out] at HQ4
            go_wp2_with (at_builtin; refine wpList_append_row rfl (.tmp 61) (.tmp 63) 32 rfl (w.heap.size + 1) 3 iTN _ 1 8 Try.underlying32 HTN.out.1 HTN.out.2.1 HTN.out.2.2.1 HTN.out.2.2.2 rfl (by decide) _ _ _ rfl (own_below HR.out hbk) _ 1 [Value.int .i64 (k : Int)] rfl (lit_num wr _ _ _ rfl) one_z HQ4.out.1 HQ4.out.2.1 HQ4.out.2.2 ?_)
            intro v1 w1 hown hg hvo
            have HP := Lib.hid (HU.out.put (q := Z ++ [(k : Int)]) (x' := v1) HLn.out HZl.out hbk (HAe.out ▸ hg) (by rw [List.length_append, List.map_append, HM.out]; exact hown) (by rw [HAe.out, size_alloc]; exact hvo))
            have hb1 : wr.heap.size ≤ w1.heap.size := Nat.le_trans hbk.size hg.size
            have hk1 := own_grown_t ((HU.out.below hbk).lst.out) (own_below HR.out hbk) (by decide) hg
            have hkc := own_cell nl hk1 HZl.out
            obtain ⟨A1, C1, rfl⟩ := own_eta hown
            have r := hkc.1
            have y := hkc.2.1
            clear hk1 hkc hown hg hvo hz1 g5 hxq hbk
            go_upto_region 12 with fail
            rw [← HQj.out] at HP
            generalize hW : World.setCell w1 ⟨w.heap.size + 1, zn, none⟩ _ = W1 at HP ⊢
            clear hW
            go_wp2
            go_roundw
            case rel => exact ⟨q + 1, _, by omega, by first | rfl | go_num, HP⟩
            case measure => simp [intOf]; omega
        · have hlq' : ¬ (q : Int) < nq := by omega
          obtain rfl : nq = q := by omega
          have HSk := Lib.hid (HA1.out ▸ HU.out)
          clear HU
          go_wp2
          go_roundw
          case rel => exact ⟨k + 1, us, by omega, by first | rfl | go_num, HSk⟩
          case measure => simp [intOf]; omega
    · have hlt' : ¬ (k : Int) < nb := by omega
      obtain rfl : k = nb := by omega
      have HF := Lib.hid (show Lst (w.heap.size + 1) wr (.slice (some ⟨w.heap.size + 1, 0, none⟩) k k) us (Me.bef l) from by
        have h := HS.out.lst
        unfold Me.bef
        rw [← HL.out]
        exact h)
      have HB := Lib.hid HS.out.low
      clear HS
      go_wp2
      go_ret
      exact ⟨_, _, rfl, HB.out, HF.out⟩
end Go.Proofs.Ytojnhdkclabkgaa
namespace Go.Proofs.Ytojnhdkclabkgaa
open Go.RowKit
set_option linter.unusedVariables false
set_option linter.unusedSimpArgs false
attribute [local go_sem] y_undef
/-- The boxes of apart. -/
structure Ax (w : World) (gc : Array Value) (a b : Int) (u : World) : Prop where
  low : Below w.heap.size w u
  gb : Bk u w.heap.size 40 gc
  ab : Bk u (w.heap.size + 1) 3 #[.int .i64 a]
  bb : Bk u (w.heap.size + 1 + 1) 3 #[.int .i64 b]
theorem Ax.below {w u u' : World} {gc : Array Value} {a b : Int} (h : Ax w gc a b u) (hb : Below u.heap.size u u') : Ax w gc a b u' := ⟨blt h.low hb, h.gb.below hb, h.ab.below hb, h.bb.below hb⟩
theorem apart_val {g : Gr.G} {a b : Nat} : Me.apart g (a : Int) (b : Int) = ((((decide ((a : Int) = (b : Int)) || Me.unl (g.blks.getD a Gr.blk0).ops) || Me.lck (g.blks.getD b Gr.blk0).ops) || Me.hd g (b : Int)) || Me.both g (a : Int) (b : Int)) := by
  unfold Me.apart
  rw [Int.toNat_natCast, Int.toNat_natCast]
set_option maxHeartbeats 2000000 in
set_option maxRecDepth 100000 in
theorem apart_any (Ai Aa Ab Ap Ah : Option Addr) (ni ci na ca nb cb np cp nh ch : Nat) (V K S : Int) (g : Gr.G) (a b : Nat) (r : Bool) (hr : Me.apart g (a : Int) (b : Int) = r) (w : World) (hi : GrIn w g (.slice Ai ni ci) (.slice Aa na ca) (.slice Ab nb cb) (.slice Ap np cp) (.slice Ah nh ch)) (hI : Me.Iv g) (ha : a < g.blks.length) (hb : b < g.blks.length) :
    Calls Try.prog 108 #[.agg #[.slice Ai ni ci, .int .i64 V, .int .i64 K, .slice Aa na ca, .int .i64 S, .slice Ab nb cb, .slice Ap np cp, .slice Ah nh ch], .int .i64 (a : Int), .int .i64 (b : Int)] w fun e w' => e = .returned (.bool r) ∧ Below w.heap.size w w' := by
  have HIv := Lib.hid hI
  have HIn := Lib.hid hi
  obtain ⟨A, c, a1, a2, c1, c2, hA, ho⟩ := id hi.blks
  injection hA with hA1 hA2 hA3
  subst hA1 hA3
  obtain ⟨A, c, hA4, hhd⟩ := hi.hds.opened
  injection hA4 with hA4 hA5 hA6
  subst hA4 hA6
  obtain ⟨A, c, p1, pc, hA7, hpt⟩ := hi.pts.opened
  injection hA7 with hA7 hA8 hA9
  subst hA7 hA9
  rw [← hA5] at hhd
  rw [← hA8] at hpt
  have HNs := Lib.hid (And.intro hA2 (And.intro hA5 hA8))
  have hn64 : nb ≤ 64 := by rw [hA2]; exact hI.hi
  have hla : (a : Int) < (nb : Int) := by omega
  have hlb : (b : Int) < (nb : Int) := by omega
  have hla0 : (0 : Int) ≤ (a : Int) := by omega
  have hlb0 : (0 : Int) ≤ (b : Int) := by omega
  obtain ⟨bo, off, rfl, hbo, x0, -, -, hopa, -⟩ := ho a ha
  obtain ⟨bo', off', e, -, z0, -, -, hopb, -⟩ := ho b hb
  injection e with e
  injection e with e1 e2
  subst e1 e2
  clear ho hA2 hA5 hA8
  have HX := Lib.hid (show Ax w #[.slice Ai ni ci, .int .i64 V, .int .i64 K, .slice Aa na ca, .int .i64 S, .slice (some ⟨bo, off, none⟩) nb cb, .slice Ap np cp, .slice Ah nh ch] a b (((w.alloc (.cells #[.slice Ai ni ci, .int .i64 V, .int .i64 K, .slice Aa na ca, .int .i64 S, .slice (some ⟨bo, off, none⟩) nb cb, .slice Ap np cp, .slice Ah nh ch] 40)).alloc (.cells #[.int .i64 (a : Int)] 3)).alloc (.cells #[.int .i64 (b : Int)] 3)) from by
    have h0 := Bk.new w 40 #[.slice Ai ni ci, .int .i64 V, .int .i64 K, .slice Aa na ca, .int .i64 S, .slice (some ⟨bo, off, none⟩) nb cb, .slice Ap np cp, .slice Ah nh ch]
    have h1 := Bk.new (w.alloc (.cells #[.slice Ai ni ci, .int .i64 V, .int .i64 K, .slice Aa na ca, .int .i64 S, .slice (some ⟨bo, off, none⟩) nb cb, .slice Ap np cp, .slice Ah nh ch] 40)) 3 #[.int .i64 (a : Int)]
    have h2 := Bk.new ((w.alloc (.cells #[.slice Ai ni ci, .int .i64 V, .int .i64 K, .slice Aa na ca, .int .i64 S, .slice (some ⟨bo, off, none⟩) nb cb, .slice Ap np cp, .slice Ah nh ch] 40)).alloc (.cells #[.int .i64 (a : Int)] 3)) 3 #[.int .i64 (b : Int)]
    simp only [size_alloc] at h1 h2
    exact ⟨bla (bla (bla (Below.refl _ _) _) _) _, (h0.below (bla (Below.refl _ _) _)).below (bla (Below.refl _ _) _), h1.below (bla (Below.refl _ _) _), h2⟩)
  have HU := Lib.hid fun (r : Bool) (hr : Me.unl (g.blks.getD a Gr.blk0).ops = r) (W : World) (hW : Below w.heap.size w W) => unlocks_any (a1 a) (c1 a) (g.blks.getD a Gr.blk0).ops r hr W (hopa.below hW) (by have := hI.op a; omega)
  have HK := Lib.hid fun (r : Bool) (hr : Me.lck (g.blks.getD b Gr.blk0).ops = r) (W : World) (hW : Below w.heap.size w W) => locks_any (a1 b) (c1 b) (g.blks.getD b Gr.blk0).ops r hr W (hopb.below hW) (by have := hI.op b; omega)
  have HH := Lib.hid fun (r : Bool) (hr : Me.hd g (b : Int) = r) (W : World) (hW : Ax w #[.slice Ai ni ci, .int .i64 V, .int .i64 K, .slice Aa na ca, .int .i64 S, .slice (some ⟨bo, off, none⟩) nb cb, .slice Ap np cp, .slice Ah nh ch] a b W) => hasHd_any 137 #[.pointer (some ⟨w.heap.size + 1 + 1, 0, none⟩)] ent_head Ah nh ch (fun k => (g.hds.getD k (0, 0)).1) (fun k => (g.hds.getD k (0, 0)).2) W (fun k => decide ((g.hds.getD k (0, 0)).1 = (b : Int))) (fun _ u => Ax w #[.slice Ai ni ci, .int .i64 V, .int .i64 K, .slice Aa na ca, .int .i64 S, .slice (some ⟨bo, off, none⟩) nb cb, .slice Ap np cp, .slice Ah nh ch] a b u) (by rw [HNs.out.2.1]; have := hI.hdn; unfold maxLen; omega) hW
    (fun k u hu hk => by
      obtain ⟨b9, o9, e9, hb9, y0, y1⟩ := hhd k hk
      exact ⟨b9, o9, e9, (hu.low.cell (p := ⟨b9, o9 + k * 2, none⟩) hb9).trans y0, (hu.low.cell (p := ⟨b9, o9 + k * 2 + 1, none⟩) hb9).trans y1⟩)
    (fun k u hu hk => (head_any _ _ (b : Int) (w.heap.size + 1 + 1) u (hu.bb.cell 0) _ rfl).mono fun e w' h => ⟨h.1, hu.below h.2⟩) r (by rw [← hr]; unfold Me.hd; rw [HNs.out.2.1])
  have HP := Lib.hid fun (r : Bool) (hr : Me.both g (a : Int) (b : Int) = r) (W : World) (hW : Ax w #[.slice Ai ni ci, .int .i64 V, .int .i64 K, .slice Aa na ca, .int .i64 S, .slice (some ⟨bo, off, none⟩) nb cb, .slice Ap np cp, .slice Ah nh ch] a b W) => hasLs_any 138 #[.pointer (some ⟨w.heap.size + 1, 0, none⟩), .pointer (some ⟨w.heap.size + 1 + 1, 0, none⟩)] ent_both Ap np cp p1 (fun k => (g.pts.getD k []).length) pc W (fun k => Me.has (g.pts.getD k []) (a : Int) && Me.has (g.pts.getD k []) (b : Int)) (fun _ u => Ax w #[.slice Ai ni ci, .int .i64 V, .int .i64 K, .slice Aa na ca, .int .i64 S, .slice (some ⟨bo, off, none⟩) nb cb, .slice Ap np cp, .slice Ah nh ch] a b u) (by rw [HNs.out.2.2]; have := hI.ptn; unfold maxLen; omega) hW
    (fun k u hu hk => by
      obtain ⟨b9, o9, e9, hb9, y0, y1⟩ := hpt k hk
      exact ⟨b9, o9, e9, (hu.low.cell (p := ⟨b9, o9 + k, none⟩) hb9).trans y0⟩)
    (fun k u hu hk => by
      obtain ⟨b9, o9, e9, hb9, y0, y1⟩ := hpt k hk
      exact (both_any _ (g.pts.getD k []) (a : Int) (b : Int) (w.heap.size + 1) (w.heap.size + 1 + 1) u (hu.ab.cell 0) (hu.bb.cell 0) (y1.below hu.low) (by have := hI.ptl _ (Me.getD_mem (d := []) (show k < g.pts.length by rw [← HNs.out.2.2]; exact hk)); omega) _ rfl).mono fun e w' h => ⟨h.1, hu.below h.2⟩) r (by rw [← hr]; unfold Me.both; rw [HNs.out.2.2])
  rw [apart_val] at hr
  have x0' := (HX.out.low.cell (p := ⟨bo, off + a * 3, none⟩) hbo).trans x0
  have z0' := (HX.out.low.cell (p := ⟨bo, off + b * 3, none⟩) hbo).trans z0
  have HC := Lib.hid (show ∀ u, Ax w #[.slice Ai ni ci, .int .i64 V, .int .i64 K, .slice Aa na ca, .int .i64 S, .slice (some ⟨bo, off, none⟩) nb cb, .slice Ap np cp, .slice Ah nh ch] a b u → u.cell? ⟨bo, off + a * 3, none⟩ = some (.slice (a1 a) (g.blks.getD a Gr.blk0).ops.length (c1 a)) ∧ u.cell? ⟨bo, off + b * 3, none⟩ = some (.slice (a1 b) (g.blks.getD b Gr.blk0).ops.length (c1 b)) from fun u hu => ⟨(hu.low.cell (p := ⟨bo, off + a * 3, none⟩) hbo).trans x0, (hu.low.cell (p := ⟨bo, off + b * 3, none⟩) hbo).trans z0⟩)
  clear hi hI hopa hopb hhd hpt x0 z0 ha hb
  generalize (g.blks.getD a Gr.blk0).ops = oa at *
  generalize (g.blks.getD b Gr.blk0).ops = ob at *
  go_enter Try.func108, Try.ntmps108
  go_upto_region 3 with fail
  generalize hW : World.alloc _ (.cells #[.int .i64 (b : Int)] 3) = W0 at HX x0' z0' ⊢
  clear hW
  have g5 := HX.out.gb.cell 5
  have b0 := HX.out.ab.cell 0
  have b1 := HX.out.bb.cell 0
  by_cases hab : a = b
  · have e : ((a : Int) == (b : Int)) = true := by simp [hab]
    have HR := Lib.hid (show true = r by rw [← hr]; simp [hab])
    clear hr hab
    go_wp2
    go_ret
    exact ⟨ret_bool HR.out, HX.out.low⟩
  · have e : ((a : Int) == (b : Int)) = false := by simp; omega
    have e' : decide ((a : Int) = (b : Int)) = false := by simp; omega
    rw [e', Bool.false_or] at hr
    clear e'
    cases h2 : Me.unl oa with
    | true =>
      have H2 := Lib.hid h2
      have HR := Lib.hid (show true = r by rw [← hr, h2]; simp)
      clear hr hab h2
      go_wp2_with fail
      refine (HU.out _ H2.out _ HX.out.low).mono ?_
      rintro e w' ⟨rfl, hw⟩
      obtain rfl := hw.symm
      go_wp2
      go_ret
      exact ⟨ret_bool HR.out, HX.out.low⟩
    | false =>
      have H2 := Lib.hid h2
      rw [h2, Bool.false_or] at hr
      clear h2
      cases h3 : Me.lck ob with
      | true =>
        have H3 := Lib.hid h3
        have HR := Lib.hid (show true = r by rw [← hr, h3]; simp)
        clear hr hab h3
        go_wp2_with fail
        refine (HU.out _ H2.out _ HX.out.low).mono ?_
        rintro e w' ⟨rfl, hw⟩
        obtain rfl := hw.symm
        go_wp2_with fail
        refine (HK.out _ H3.out _ HX.out.low).mono ?_
        rintro e w' ⟨rfl, hw⟩
        obtain rfl := hw.symm
        go_wp2
        go_ret
        exact ⟨ret_bool HR.out, HX.out.low⟩
      | false =>
        have H3 := Lib.hid h3
        rw [h3, Bool.false_or] at hr
        clear h3
        have g7 := HX.out.gb.cell 7
        cases h4 : Me.hd g (b : Int) with
        | true =>
          have H4 := Lib.hid h4
          have HR := Lib.hid (show true = r by rw [← hr, h4]; simp)
          clear hr hab h4
          go_wp2_with fail
          refine (HU.out _ H2.out _ HX.out.low).mono ?_
          rintro e w' ⟨rfl, hw⟩
          obtain rfl := hw.symm
          go_wp2_with fail
          refine (HK.out _ H3.out _ HX.out.low).mono ?_
          rintro e w' ⟨rfl, hw⟩
          obtain rfl := hw.symm
          go_wp2_with fail
          refine (HH.out _ H4.out _ HX.out).mono ?_
          rintro e w1 ⟨rfl, kk, hx1⟩
          have HX1 := Lib.hid hx1
          clear hx1
          go_wp2
          go_ret
          exact ⟨ret_bool HR.out, HX1.out.low⟩
        | false =>
          have H4 := Lib.hid h4
          rw [h4, Bool.false_or] at hr
          have H5 := Lib.hid hr
          clear h4 hr hab
          go_wp2_with fail
          refine (HU.out _ H2.out _ HX.out.low).mono ?_
          rintro e w' ⟨rfl, hw⟩
          obtain rfl := hw.symm
          go_wp2_with fail
          refine (HK.out _ H3.out _ HX.out.low).mono ?_
          rintro e w' ⟨rfl, hw⟩
          obtain rfl := hw.symm
          go_wp2_with fail
          refine (HH.out _ H4.out _ HX.out).mono ?_
          rintro e w1 ⟨rfl, kk, hx1⟩
          have HX1 := Lib.hid hx1
          clear hx1 g5 g7 b0 b1 x0' z0'
          have g6 := HX1.out.gb.cell 6
          go_wp2_with fail
          refine (HP.out _ H5.out _ HX1.out).mono ?_
          rintro e w2 ⟨rfl, kk2, hx2⟩
          have HX2 := Lib.hid hx2
          clear hx2 g6
          go_wp2
          go_ret
          exact ⟨rfl, HX2.out.low⟩
/-- What pair answers. -/
def PairPost (g : Gr.G) (w : World) (e : Ending) (w' : World) : Prop :=
  Below w.heap.size w w' ∧ ((Me.first g = none ∧ e = .returned (.tuple #[.int .i64 0, .int .i64 0, .bool false])) ∨ ∃ a : Nat, a < g.blks.length ∧ Me.tk g a = true ∧ Me.first g = some a ∧ e = .returned (.tuple #[.int .i64 (a : Int), .int .i64 (Me.nb g a), .bool true]))
/-- The box of pair and what is before what. -/
structure Px (w : World) (gc : Array Value) (base : Nat) (y : Value) (us : List Value) (ts : List (List Int)) (u : World) : Prop where
  low : Below w.heap.size w u
  gb : Bk u w.heap.size 40 gc
  lst : Lst base u y us ts
theorem Px.below {w u u' : World} {gc : Array Value} {base : Nat} {y : Value} {us : List Value} {ts : List (List Int)} (h : Px w gc base y us ts u) (hb : Below u.heap.size u u') : Px w gc base y us ts u' := ⟨blt h.low hb, h.gb.below hb, h.lst.below hb⟩
set_option maxHeartbeats 2000000 in
set_option maxRecDepth 100000 in
theorem pair_any (Ai Aa Ab Ap Ah : Option Addr) (ni ci na ca nb cb np cp nh ch : Nat) (V K S : Int) (g : Gr.G) (w : World) (hi : GrIn w g (.slice Ai ni ci) (.slice Aa na ca) (.slice Ab nb cb) (.slice Ap np cp) (.slice Ah nh ch)) (hI : Me.Iv g) :
    Calls Try.prog 65 #[.agg #[.slice Ai ni ci, .int .i64 V, .int .i64 K, .slice Aa na ca, .int .i64 S, .slice Ab nb cb, .slice Ap np cp, .slice Ah nh ch]] w (PairPost g w) := by
  have HIv := Lib.hid hI
  have HIn := Lib.hid hi
  obtain ⟨A, c, a1, a2, c1, c2, hA, ho⟩ := id hi.blks
  injection hA with hA1 hA2 hA3
  subst hA1 hA3
  rw [← hA2] at ho
  have HO := Lib.hid ho
  have HNb := Lib.hid hA2
  have hn64 : nb ≤ 64 := by rw [hA2]; exact hI.hi
  have HW := Lib.hid (show Below w.heap.size w (w.alloc (.cells #[.slice Ai ni ci, .int .i64 V, .int .i64 K, .slice Aa na ca, .int .i64 S, .slice Ab nb cb, .slice Ap np cp, .slice Ah nh ch] 40)) ∧ Bk (w.alloc (.cells #[.slice Ai ni ci, .int .i64 V, .int .i64 K, .slice Aa na ca, .int .i64 S, .slice Ab nb cb, .slice Ap np cp, .slice Ah nh ch] 40)) w.heap.size 40 #[.slice Ai ni ci, .int .i64 V, .int .i64 K, .slice Aa na ca, .int .i64 S, .slice Ab nb cb, .slice Ap np cp, .slice Ah nh ch] from ⟨bla (Below.refl _ _) _, Bk.new _ _ _⟩)
  have HBf := Lib.hid fun (W : World) (hW : Below w.heap.size w W) => gbefore_any Ai Aa Ab Ap Ah ni ci na ca nb cb np cp nh ch V K S g.blks W (hi.below hW).blks hn64 hI.two hI.nx hI.nd
  have HAp := Lib.hid fun (a b : Nat) (r : Bool) (hr : Me.apart g (a : Int) (b : Int) = r) (W : World) (hW : Below w.heap.size w W) (ha : a < g.blks.length) (hb : b < g.blks.length) => apart_any Ai Aa Ab Ap Ah ni ci na ca nb cb np cp nh ch V K S g a b r hr W (hi.below hW) hI ha hb
  clear hi hI ho hA2
  go_enter Try.func65, Try.ntmps65
  go_upto_region 1 with fail
  generalize hW : World.alloc _ (.cells #[.slice Ai ni ci, .int .i64 V, .int .i64 K, .slice Aa na ca, .int .i64 S, .slice Ab nb cb, .slice Ap np cp, .slice Ah nh ch] 40) = W0 at HW ⊢
  clear hW
  have g0 := HW.out.2.cell 0
  have g1 := HW.out.2.cell 1
  have g2 := HW.out.2.cell 2
  have g3 := HW.out.2.cell 3
  have g4 := HW.out.2.cell 4
  have g5 := HW.out.2.cell 5
  have g6 := HW.out.2.cell 6
  have g7 := HW.out.2.cell 7
  go_wp2_with fail
  refine (HBf.out _ HW.out.1).mono ?_
  rintro e w1 ⟨y, us, rfl, hb1, hl⟩
  obtain ⟨gy, cy, ey⟩ : ∃ gy cy, y = .slice (some ⟨gy, 0, none⟩) nb cy := by
    obtain ⟨g', c', e, -⟩ := own_at (i := 0) (d := nl) hl.out (by rw [show (Me.bef g.blks).length = g.blks.length from Me.befK_len _ _]; exact HIv.out.lo)
    refine ⟨g', c', e.trans ?_⟩
    rw [show (Me.bef g.blks).length = nb from (Me.befK_len _ _).trans HNb.out.symm]
  subst ey
  have HP := Lib.hid (show Px w #[.slice Ai ni ci, .int .i64 V, .int .i64 K, .slice Aa na ca, .int .i64 S, .slice Ab nb cb, .slice Ap np cp, .slice Ah nh ch] (W0.heap.size + 1) (.slice (some ⟨gy, 0, none⟩) nb cy) us (Me.bef g.blks) w1 from ⟨blt HW.out.1 hb1, HW.out.2.below hb1, hl⟩)
  clear hb1 hl HW HBf g0 g1 g2 g3 g4 g5 g6 g7
  have g5 := HP.out.gb.cell 5
  go_wp2
  go_loopw [14, 6, 7, 8] (fun i _ _ _ wr => ∃ (k : Nat), k ≤ nb ∧ i = .int .i64 k ∧ Hid (Px w #[.slice Ai ni ci, .int .i64 V, .int .i64 K, .slice Aa na ca, .int .i64 S, .slice Ab nb cb, .slice Ap np cp, .slice Ah nh ch] (W0.heap.size + 1) (.slice (some ⟨gy, 0, none⟩) nb cy) us (Me.bef g.blks) wr) ∧ Hid (∀ j, j < k → Me.tk g j = false)) (fun i _ _ _ _ => nb - (intOf i).toNat)
  case atStart => exact ⟨0, Nat.zero_le _, rfl, HP, Lib.hid fun j hj => absurd hj (Nat.not_lt_zero _)⟩
  case round =>
    clear HP g5
    obtain ⟨k, hk, rfl, HP, HF⟩ := hrel
    by_cases hlt : k < nb
    · have hlt' : (k : Int) < nb := by omega
      have hlt0 : (0 : Int) ≤ (k : Int) := by omega
      obtain ⟨bo, off, rfl, hbo, x0, x1, x2, -, hnx⟩ := HO.out k hlt
      replace x0 := (HP.out.low.cell (p := ⟨bo, off + k * 3, none⟩) hbo).trans x0
      replace x1 := (HP.out.low.cell (p := ⟨bo, off + k * 3 + 1, none⟩) hbo).trans x1
      replace x2 := (HP.out.low.cell (p := ⟨bo, off + k * 3 + 2, none⟩) hbo).trans x2
      have hbw : bo < wr.heap.size := Nat.lt_of_lt_of_le hbo HP.out.low.size
      have HTk := Lib.hid (rfl : Me.tk g k = Me.tk g k)
      have HT2 := Lib.hid (show Me.tk g k = (decide ((g.blks.getD k Gr.blk0).next.length = 1) && (decide (((Me.bef g.blks).getD (Me.nb g k).toNat []).length = 1) && !Me.apart g (k : Int) (Me.nb g k))) from rfl)
      have HNx := Lib.hid (HIv.out.nx k (HNb.out ▸ hlt))
      have HNb2 := Lib.hid (show Me.nb g k = (g.blks.getD k Gr.blk0).next.getD 0 0 from rfl)
      obtain ⟨A', c', hA', hqo⟩ := hnx.opened
      injection hA' with hA1 hA2 hA3
      have HQo := Lib.hid hqo
      obtain ⟨nq, hnq⟩ : ∃ n, (g.blks.getD k Gr.blk0).next.length = n := ⟨_, rfl⟩
      obtain ⟨no, hno⟩ : ∃ n, (g.blks.getD k Gr.blk0).ops.length = n := ⟨_, rfl⟩
      obtain ⟨co, hco⟩ : ∃ n, (g.blks.getD k Gr.blk0).cond = n := ⟨_, rfl⟩
      have HQl := Lib.hid hnq
      rw [hA1, hA3, hnq] at x2
      rw [hno] at x0
      rw [hco] at x1
      rw [hnq] at HQo HT2
      clear hA1 hA2 hA3 hqo hnx hno hco hnq
      have hbk : Below wr.heap.size wr (wr.alloc (.cells #[.slice (a1 k) no (c1 k), .int .i64 co, .slice A' nq c'] 34)) := bla (Below.refl _ _) _
      have HP1 := Lib.hid (HP.out.below hbk)
      have HB5 := Lib.hid (Bk.new wr 34 #[.slice (a1 k) no (c1 k), .int .i64 co, .slice A' nq c'])
      go_upto_region 5 with fail
      clear x0 x1 x2 hbk HP hbw
      obtain ⟨t, hte⟩ : ∃ t, wr.heap.size = t := ⟨_, rfl⟩
      rw [hte] at HB5 ⊢
      clear hte
      generalize hW : World.alloc wr (.cells #[.slice (a1 k) no (c1 k), .int .i64 co, .slice A' nq c'] 34) = W1 at HP1 HB5 ⊢
      clear hW
      have q2 := HB5.out.cell 2
      by_cases hq1 : nq = 1
      · subst hq1
        obtain ⟨bq, oq, rfl, hbq, hxq⟩ := HQo.out 0 (by omega)
        replace hxq := (HP1.out.low.cell (p := ⟨bq, oq, none⟩) hbq).trans hxq
        have hbqw : bq < W1.heap.size := Nat.lt_of_lt_of_le hbq HP1.out.low.size
        have hzr := HNx.out _ (Me.getD_mem (d := (0 : Int)) (show 0 < (g.blks.getD k Gr.blk0).next.length by rw [HQl.out]; omega))
        have HNq := HNb2
        obtain ⟨z, hz⟩ : ∃ z, (g.blks.getD k Gr.blk0).next.getD 0 0 = z := ⟨_, rfl⟩
        rw [hz] at hzr hxq HNq
        clear hz HNb2
        obtain ⟨zn, rfl⟩ : ∃ zn : Nat, z = (zn : Int) := ⟨z.toNat, by omega⟩
        have hzb : zn < nb := by rw [HNb.out]; omega
        have hz1 : (zn : Int) < (nb : Int) := by omega
        have hz0 : (0 : Int) ≤ (zn : Int) := by omega
        rw [HNq.out, Int.toNat_natCast] at HT2
        have hzl : zn < (Me.bef g.blks).length := by rw [show (Me.bef g.blks).length = nb from (Me.befK_len _ _).trans HNb.out.symm]; exact hzb
        have hcz := own_cell nl HP1.out.lst.out hzl
        have HR := Lib.hid (HP1.out.lst.rws.row zn hzl)
        obtain ⟨Z, hZ⟩ : ∃ Z, (Me.bef g.blks).getD zn [] = Z := ⟨_, rfl⟩
        rw [hZ] at HR HT2
        obtain ⟨A9, C9, hA9⟩ := own_eta HR.out
        rw [hA9] at hcz
        have hcz1 := hcz.1
        have hgl := hcz.2.2.1
        have HZ := Lib.hid hZ
        have g0 := HP1.out.gb.cell 0
        have g1 := HP1.out.gb.cell 1
        have g2 := HP1.out.gb.cell 2
        have g3 := HP1.out.gb.cell 3
        have g4 := HP1.out.gb.cell 4
        have g5 := HP1.out.gb.cell 5
        have g6 := HP1.out.gb.cell 6
        have g7 := HP1.out.gb.cell 7
        clear hZ hA9 hcz hzl HR HZ hzr
        by_cases hm1 : Z.length = 1
        · rw [hm1] at hcz1
          have e1 : decide (Z.length = 1) = true := by simp [hm1]
          rw [e1] at HT2
          clear hm1 e1
          cases hap : Me.apart g (k : Int) (zn : Int) with
          | true =>
            have HA := Lib.hid hap
            have HN := Lib.hid (show Me.tk g k = false by rw [HT2.out, hap]; rfl)
            clear hap HT2 HTk
            go_wp2_with fail
            refine (HAp.out k zn _ HA.out _ HP1.out.low (HNb.out ▸ hlt) (HNb.out ▸ hzb)).mono ?_
            rintro e w2 ⟨rfl, hb2⟩
            have HP2 := Lib.hid (HP1.out.below hb2)
            clear hb2 HP1 HB5 q2 g0 g1 g2 g3 g4 g5 g6 g7 hcz1 hxq hbqw hgl
            go_wp2
            go_roundw
            case rel => exact ⟨k + 1, by omega, by first | rfl | go_num, HP2, Lib.hid fun j hj => by rcases Nat.lt_succ_iff_lt_or_eq.1 hj with h | rfl; exact HF.out j h; exact HN.out⟩
            case measure => simp [intOf]; omega
          | false =>
            have HA := Lib.hid hap
            have HN := Lib.hid (show Me.tk g k = true by rw [HT2.out, hap]; rfl)
            clear hap HT2 HTk
            go_wp2_with fail
            refine (HAp.out k zn _ HA.out _ HP1.out.low (HNb.out ▸ hlt) (HNb.out ▸ hzb)).mono ?_
            rintro e w2 ⟨rfl, hb2⟩
            have HB2 := Lib.hid (HP1.out.below hb2).low
            clear hb2 HP1 HB5 q2 g0 g1 g2 g3 g4 g5 g6 g7 hcz1 hxq hbqw hgl
            go_wp2
            refine bodyPost_ret (v := .tuple #[.int .i64 (k : Int), .int .i64 (zn : Int), .bool true]) ?_ rfl ⟨HB2.out, .inr ⟨k, HNb.out ▸ hlt, HN.out, Me.first_some (HNb.out ▸ hlt) HN.out HF.out, by rw [HNq.out]⟩⟩
            simp [results, Try.func65]
        · obtain ⟨zl, hzl⟩ : ∃ n, Z.length = n := ⟨_, rfl⟩
          have e1 : decide (Z.length = 1) = false := by simp [hm1]
          rw [e1] at HT2
          have HN := Lib.hid (show Me.tk g k = false by rw [HT2.out]; simp)
          rw [hzl] at hcz1 hm1
          have e2 : ((zl : Int) == 1) = false := by simp; omega
          have e3 : ¬ ((zl : Int) = 1) := by omega
          clear e1 hzl HT2 HTk
          go_wp2
          have HP2 := HP1
          clear HP1 HB5 q2 g0 g1 g2 g3 g4 g5 g6 g7 hcz1 hxq hbqw hgl e2 e3 hm1
          go_roundw
          case rel => exact ⟨k + 1, by omega, by first | rfl | go_num, HP2, Lib.hid fun j hj => by rcases Nat.lt_succ_iff_lt_or_eq.1 hj with h | rfl; exact HF.out j h; exact HN.out⟩
          case measure => simp [intOf]; omega
      · have e1 : decide (nq = 1) = false := by simp [hq1]
        rw [e1, Bool.false_and] at HT2
        have HN := Lib.hid HT2.out
        have e2 : ((nq : Int) == 1) = false := by simp; omega
        have e3 : ¬ ((nq : Int) = 1) := by omega
        clear e1 HT2 HTk hq1
        go_wp2
        have HP2 := HP1
        clear HP1 HB5 q2 e2 e3
        go_roundw
        case rel => exact ⟨k + 1, by omega, by first | rfl | go_num, HP2, Lib.hid fun j hj => by rcases Nat.lt_succ_iff_lt_or_eq.1 hj with h | rfl; exact HF.out j h; exact HN.out⟩
        case measure => simp [intOf]; omega
    · have hlt' : ¬ (k : Int) < nb := by omega
      obtain rfl : k = nb := by omega
      have HB := Lib.hid HP.out.low
      have HN := Lib.hid (Me.first_none (g := g) (by rw [← HNb.out]; exact HF.out))
      clear HP
      go_wp2
      refine bodyPost_ret (v := .tuple #[.int .i64 0, .int .i64 0, .bool false]) ?_ rfl ⟨HB.out, .inl ⟨HN.out, rfl⟩⟩
      simp [results, Try.func65]
end Go.Proofs.Ytojnhdkclabkgaa
