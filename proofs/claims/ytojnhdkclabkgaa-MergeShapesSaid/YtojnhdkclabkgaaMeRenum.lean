/- slices.Concat of two lists of lists. No condition. The code of layer 16: all blocks get their new numbers. No condition. -/
import Derived.Test.YtojnhdkclabkgaaGrOwn
import Derived.Lib.AppendZerosOnto
import Derived.LoopN
import Derived.LoopTactic
import Derived.Test.YtojnhdkclabkgaaMeRn
import Derived.RegionTactic
import Derived.StillTailTactics
import Derived.Deep.DeepCutAuto
import Derived.Deep.CutBlock
namespace Go.Proofs.Ytojnhdkclabkgaa
open Go.RowKit
set_option linter.unusedVariables false
set_option linter.unusedSimpArgs false
attribute [local go_sem] y_undef
theorem lzero_size (n : Nat) : (Builtin.zeroCells #[.slice none 0 0] n).size = n := by simp [Builtin.zeroCells]
set_option maxHeartbeats 4000000 in
set_option maxRecDepth 100000 in
theorem lgrow_any (n : Nat) (w : World) (hn : n ≤ 4096) :
    Calls Try.prog 142 #[.slice none 0 0, .int .i64 n] w fun e w' => ∃ v', e = .returned v' ∧ w'.ownsRow w.heap.size 32 1 v' 0 [] ∧ Below w.heap.size w w' := by
  by_cases h0 : n = 0
  · subst h0
    go_enter Try.func142, Try.ntmps142
    go_wp2
    go_ret
    exact ⟨_, rfl, World.ownsRow_nil _ _ _ _, Below.refl _ _⟩
  · obtain ⟨iT, hi0, hz0, hz1, hz2⟩ := info_parts info_lst
    have h1 : ¬ ((n : Int) < 0) := by omega
    have h4 : (n : Int) > 0 := by omega
    have hrz : ∀ ty, (Builtin.append_ #[37, 3] ty #[.slice none 0 0, .int .i64 (n : Int)]).run Try.prog w =
        .ok (.slice (some ⟨w.heap.size, 0, none⟩) n (grownCap w n 0 32)) (w.drew.alloc (.cells (#[] ++ Builtin.zeroCells #[.slice none 0 0] n ++ Builtin.zeroCells #[.slice none 0 0] (grownCap w n 0 32 - n)) 32)) := fun ty => by
      have hold : (Builtin.firstCells iT.size 0 (.slice none 0 0)).run Try.prog w.drew = .ok ([] : List Value).toArray w.drew := run_firstCells_none w.drew iT.size 0 0 0
      have h := Lib.run_append_grow_zeros w 37 3 ty 32 iT _ .i64 .i64 Try.underlying37 Try.underlying3 hi0 hz0 none 0 0 [] hold n (by omega) (by omega) (by omega) (by omega) (by rw [hz2]; omega)
        (growslice_fits (by omega) (by rw [hz2]; omega))
      simp only [Nat.zero_add] at h
      exact h
    have hGn : n ≤ grownCap w n 0 32 := grownCap_ge w _ _ _
    have hG63 : grownCap w n 0 32 ≤ maxLen := grownCap_le_maxLen w n 0 32 (by unfold maxLen; omega)
    obtain ⟨G, hG⟩ : ∃ G, G = grownCap w n 0 32 := ⟨_, rfl⟩
    rw [← hG] at hrz hGn hG63
    have hG63' := hG63
    unfold maxLen at hG63'
    have HO := Lib.hid (show (w.alloc (.cells (Builtin.zeroCells #[.slice none 0 0] n ++ Builtin.zeroCells #[.slice none 0 0] (G - n)) 32)).drew.ownsRow w.heap.size 32 1 (.slice (some ⟨w.heap.size, 0, none⟩) 0 G) 0 [] from World.ownsRow_made (base := w.heap.size) (e := 32) (size := 1) w.drew (Builtin.zeroCells #[.slice none 0 0] n ++ Builtin.zeroCells #[.slice none 0 0] (G - n)) G (Nat.le_refl _) hG63 (by rw [Array.size_append, lzero_size, lzero_size]; omega))
    have HB := Lib.hid (show Below w.heap.size w (w.alloc (.cells (Builtin.zeroCells #[.slice none 0 0] n ++ Builtin.zeroCells #[.slice none 0 0] (G - n)) 32)).drew from (below_drewN w.heap.size w 1).alloc (Nat.le_refl _) (.cells (Builtin.zeroCells #[.slice none 0 0] n ++ Builtin.zeroCells #[.slice none 0 0] (G - n)) 32))
    clear hG hi0 hz0 hz1 hz2
    go_enter Try.func142, Try.ntmps142
    go_wp2_with (at_builtin; refine Lib.wpList_append_run _ rfl _ _ _ _ rfl _ _ rfl rfl _ _ (hrz _) ?_)
    all_goals (go_ret; exact ⟨_, rfl, HO.out, HB.out⟩)
set_option maxHeartbeats 4000000 in
set_option maxRecDepth 100000 in
theorem lconcat_any (l1 l2 : List Value) (n1 n2 : Nat) (A1 A2 : Option Addr) (c1 c2 B : Nat) (w : World) (h1 : RowIn 1 w (.slice A1 n1 c1) n1 l1) (h2 : RowIn 1 w (.slice A2 n2 c2) n2 l2) (ho1 : ∀ u ∈ l1, u.oneCell' = true) (ho2 : ∀ u ∈ l2, u.oneCell' = true) (hm1 : n1 ≤ 1024) (hm2 : n2 ≤ 1024)
    (hc1 : w.cell? ⟨B, 0, none⟩ = some (.slice A1 n1 c1)) (hc2 : w.cell? ⟨B, 1, none⟩ = some (.slice A2 n2 c2)) (hB : B < w.heap.size) :
    Calls Try.prog 110 #[.slice (some ⟨B, 0, none⟩) 2 2] w fun e w' => ∃ A c, e = .returned (.slice A (n1 + n2) c) ∧ w'.ownsRow w.heap.size 32 1 (.slice A (n1 + n2) c) (n1 + n2) (l1 ++ l2) ∧ Below w.heap.size w w' := by
  obtain ⟨iT, hi0, hz0, hz1, hz2⟩ := info_parts info_lst
  have HIT := Lib.hid (And.intro hi0 (And.intro hz0 (And.intro hz1 hz2)))
  have hG := lgrow_any (n1 + n2) w (by omega)
  rw [Int.natCast_add] at hG
  have HG := Lib.hid hG
  clear hG
  have HP1 := Lib.hid fun (u : World) (hb : Below w.heap.size w u) => h1.below hb
  have HP2 := Lib.hid fun (u : World) (hb : Below w.heap.size w u) => h2.below hb
  have HCs := Lib.hid (And.intro hc1 hc2)
  clear hi0 hz0 hz1 hz2 h1 h2
  have z1 : ¬ ((n1 : Int) < 0) := by omega
  have z2 : ¬ ((n1 : Int) + (n2 : Int) < 0) := by omega
  go_enter Try.func110, Try.ntmps110
  go_wp2
  refine wp_loop_rounds 3 ?_
  rw [rounds_succ]
  go_wp2
  rw [rounds_succ]
  go_wp2
  rw [rounds_succ]
  go_wp2_with fail
  refine HG.out.mono ?_
  rintro e w1 ⟨v1, rfl, hO1, hb1⟩
  have HO1 := Lib.hid hO1
  have HB1 := Lib.hid hb1
  have d1 := (hb1.cell (p := ⟨B, 0, none⟩) hB).trans hc1
  have d2 := (hb1.cell (p := ⟨B, 1, none⟩) hB).trans hc2
  clear hO1 hb1 hc1 hc2 HG
  go_wp2
  refine wp_loop_rounds 3 ?_
  rw [rounds_succ]
  go_wp2_with (at_builtin; refine wpList_append_row rfl (.tmp 31) (.tmp 32) 37 rfl w.heap.size 32 iT _ 1 24 Try.underlying37 HIT.out.1 HIT.out.2.1 HIT.out.2.2.1 HIT.out.2.2.2 rfl (by decide) v1 (0) ([]) rfl HO1.out (.slice A1 n1 c1) n1 l1 rfl (HP1.out _ HB1.out) ho1 (by unfold maxLen; omega) (by omega) (HB1.out).size ?_; intro v3 w3 hO3 hg3 _; have HO3 := Lib.hid hO3; have HB3 := Lib.hid (HB1.out.grown hg3 HB1.out.size (fun k hk => (HO1.out.lt k hk).1)); clear hO3 hg3; have d3 := (HB3.out.cell (p := ⟨B, 1, none⟩) hB).trans HCs.out.2)
  rw [rounds_succ]
  go_wp2_with (at_builtin; refine wpList_append_row rfl (.tmp 31) (.tmp 32) 37 rfl w.heap.size 32 iT _ 1 24 Try.underlying37 HIT.out.1 HIT.out.2.1 HIT.out.2.2.1 HIT.out.2.2.2 rfl (by decide) v3 (0 + n1) ([] ++ l1) rfl HO3.out (.slice A2 n2 c2) n2 l2 rfl (HP2.out _ HB3.out) ho2 (by unfold maxLen; omega) (by omega) (HB3.out).size ?_; intro v4 w4 hO4 hg4 _; have HO4 := Lib.hid hO4; have HB4 := Lib.hid (HB3.out.grown hg4 HB3.out.size (fun k hk => (HO3.out.lt k hk).1)); clear hO4 hg4)
  rw [rounds_succ]
  go_wp2
  go_ret
  obtain ⟨A, c, hv, _⟩ := RowIn.own HO4.out
  subst hv
  have hf := HO4.out
  simp only [Nat.zero_add, List.nil_append] at hf
  exact ⟨A, c, by simp, hf, HB4.out⟩
end Go.Proofs.Ytojnhdkclabkgaa
namespace Go.Proofs.Ytojnhdkclabkgaa
open Go.RowKit
set_option linter.unusedVariables false
set_option linter.unusedSimpArgs false
attribute [local go_sem] y_undef
def RenPost (base : Nat) (g : Gr.G) (tos : List (List Int)) (vi va vb vp vh vt : Value) (us : List (Value × Int × Value)) (ps ts : List Value) (f : Int → Int) (w : World) (e : Ending) (w' : World) : Prop :=
  e = .returned (.tuple #[]) ∧ Gm base (rnG f g) (tos.map (List.map f)) vi va vb vp vh vt us ps ts w' ∧ Chg base w w'
theorem lsL_at1 {g : Gr.G} {tos : List (List Int)} {k : Nat} (h : k < g.blks.length) : (lsL g tos).getD k [] = (g.blks.getD k Gr.blk0).next := by
  unfold lsL
  rw [ap_left (by simpa using h), Me.getD_map (d := Gr.blk0) _ h]
theorem lsL_at2 {g : Gr.G} {tos : List (List Int)} {k : Nat} : (lsL g tos).getD (g.blks.length + k) [] = (g.pts ++ tos).getD k [] := by
  unfold lsL
  exact ap_right (by simp)
set_option maxHeartbeats 2000000 in
set_option maxRecDepth 100000 in
theorem renumber_any (base : Nat) (g : Gr.G) (tos : List (List Int)) (vi va vb vp vh vt : Value) (V K S : Int) (us : List (Value × Int × Value)) (ps ts : List Value) (a b : Nat) (w : World) (h : Gm base g tos vi va vb vp vh vt us ps ts w) (ha : a ≤ 64) (hb : b ≤ 64) (hB : g.blks.length ≤ 64) (hP : g.pts.length ≤ 64) (hT : tos.length ≤ 64) (hH : g.hds.length ≤ 64)
    (hq : ∀ q ∈ lsL g tos, q.length ≤ 64 ∧ ∀ x ∈ q, 0 ≤ x ∧ x ≤ 64) (hh : ∀ x ∈ g.hds, 0 ≤ x.1 ∧ x.1 ≤ 64) :
    Calls Try.prog 67 #[.agg #[vi, .int .i64 V, .int .i64 K, va, .int .i64 S, vb, vp, vh], vt, .int .i64 (a : Int), .int .i64 (b : Int)] w (RenPost base g tos vi va vb vp vh vt us ps ts (Me.place (a : Int) (b : Int)) w) := by
  have HU := Lib.hid h.ul
  have HPL := Lib.hid h.pl
  have HTL := Lib.hid h.tl
  obtain ⟨Ai, ci, rfl⟩ := own_eta h.ins
  obtain ⟨Aa, ca, rfl⟩ := own_eta h.ars
  obtain ⟨Ah, ch, rfl⟩ := own_eta h.hds
  obtain ⟨Ap, cp, rfl⟩ := own_eta h.prow
  obtain ⟨At, ct, rfl⟩ := own_eta h.trow
  obtain ⟨_, Q, cb, cs, rfl, hQb, hcap, -, hQk, -⟩ := id h.blk
  have hbs : base ≤ w.heap.size := by have := hQk.lt; omega
  obtain ⟨ni, hni⟩ : ∃ n, g.ins.length = n := ⟨_, rfl⟩
  obtain ⟨na, hna⟩ : ∃ n, g.ars.length = n := ⟨_, rfl⟩
  obtain ⟨nb, hnb⟩ : ∃ n, g.blks.length = n := ⟨_, rfl⟩
  obtain ⟨np, hnp⟩ : ∃ n, g.pts.length = n := ⟨_, rfl⟩
  obtain ⟨nh, hnh⟩ : ∃ n, g.hds.length = n := ⟨_, rfl⟩
  obtain ⟨nt, hnt⟩ : ∃ n, tos.length = n := ⟨_, rfl⟩
  have HNs := Lib.hid (And.intro hnb (And.intro hnp (And.intro hnh hnt)))
  rw [hni, hna, hnb, hnp, hnh, hnt] at h
  rw [hni, hna, hnb, hnp, hnh, hnt]
  rw [hnb] at hB
  rw [hnp] at hP
  rw [hnh] at hH
  rw [hnt] at hT
  have HQ := Lib.hid (And.intro hq (And.intro hh (And.intro ha hb)))
  have HBs := Lib.hid hbs
  have HS := Lib.hid (show Rn base g tos (.slice Ai ni ci) (.slice Aa na ca) (.slice (some ⟨Q, 0, none⟩) nb cb) (.slice Ap np cp) (.slice Ah nh ch) (.slice At nt ct) us ps ts (Me.place (a : Int) (b : Int)) (0) (0) (w.alloc (.cells #[.slice Ai ni ci, .int .i64 V, .int .i64 K, .slice Aa na ca, .int .i64 S, .slice (some ⟨Q, 0, none⟩) nb cb, .slice Ap np cp, .slice Ah nh ch] 40)) ∧ Chg base w (w.alloc (.cells #[.slice Ai ni ci, .int .i64 V, .int .i64 K, .slice Aa na ca, .int .i64 S, .slice (some ⟨Q, 0, none⟩) nb cb, .slice Ap np cp, .slice Ah nh ch] 40)) ∧ Bk (w.alloc (.cells #[.slice Ai ni ci, .int .i64 V, .int .i64 K, .slice Aa na ca, .int .i64 S, .slice (some ⟨Q, 0, none⟩) nb cb, .slice Ap np cp, .slice Ah nh ch] 40)) w.heap.size 40 #[.slice Ai ni ci, .int .i64 V, .int .i64 K, .slice Aa na ca, .int .i64 S, .slice (some ⟨Q, 0, none⟩) nb cb, .slice Ap np cp, .slice Ah nh ch] from by
    have hbk : Below w.heap.size w (w.alloc (.cells #[.slice Ai ni ci, .int .i64 V, .int .i64 K, .slice Aa na ca, .int .i64 S, .slice (some ⟨Q, 0, none⟩) nb cb, .slice Ap np cp, .slice Ah nh ch] 40)) := bla (Below.refl _ _) _
    exact ⟨Rn.start (h.below hbk), Chg.below hbk hbs, Bk.new w _ _⟩)
  clear h hq hh hbs hQb hcap hQk hni hna hnb hnp hnh hnt ha hb
  go_enter Try.func67, Try.ntmps67
  go_upto_region 1 with fail
  generalize hW : World.alloc _ (.cells #[.slice Ai ni ci, .int .i64 V, .int .i64 K, .slice Aa na ca, .int .i64 S, .slice (some ⟨Q, 0, none⟩) nb cb, .slice Ap np cp, .slice Ah nh ch] 40) = W0 at HS ⊢
  clear hW
  have g5 := HS.out.2.2.cell 5
  go_wp2
  clear g5
  go_loopw [17, 9] (fun i _ wr => ∃ (k : Nat), k ≤ nb ∧ i = .int .i64 k ∧ Hid (Rn base g tos (.slice Ai ni ci) (.slice Aa na ca) (.slice (some ⟨Q, 0, none⟩) nb cb) (.slice Ap np cp) (.slice Ah nh ch) (.slice At nt ct) us ps ts (Me.place (a : Int) (b : Int)) (k) (0) wr ∧ Chg base w wr ∧ Bk wr w.heap.size 40 #[.slice Ai ni ci, .int .i64 V, .int .i64 K, .slice Aa na ca, .int .i64 S, .slice (some ⟨Q, 0, none⟩) nb cb, .slice Ap np cp, .slice Ah nh ch])) (fun i _ _ => nb - (intOf i).toNat)
  case atStart => exact ⟨0, Nat.zero_le _, rfl, HS⟩
  case round =>
    clear HS
    obtain ⟨k, hk, rfl, HS⟩ := hrel
    by_cases hlt : k < nb
    · have hlt' : (k : Int) < nb := by omega
      have hlt0 : (0 : Int) ≤ (k : Int) := by omega
      have hkb : k < g.blks.length := by rw [HNs.out.1]; exact hlt
      have hat := HS.out.1.blk.at hkb
      have x0 := hat.2.2.1
      have x1 := hat.2.2.2.1
      have x2 := hat.2.2.2.2.1
      have hql := hat.2.1
      rw [own_sl (HS.out.1.ops k hkb)] at x0
      have HLs := Lib.hid (show k < (lsL g tos).length by rw [HS.out.1.flen]; omega)
      have HEl := Lib.hid (show (nxv us ++ (ps ++ ts)).getD k nl = (us.getD k bkz).2.2 from by rw [ap_left (by rw [nxv_len, HU.out]; exact hkb), nxv_at (by rw [HU.out]; exact hkb)])
      have HRw := Lib.hid (show wr.ownsRow base 3 1 (us.getD k bkz).2.2 ((lsL g tos).getD k []).length (((lsL g tos).getD k []).map (.int .i64)) from HEl.out ▸ HS.out.1.rowK HLs.out)
      have hen := own_sl HRw.out
      rw [hen] at x2
      have HMv := Lib.hid (HQ.out.1 _ (Me.getD_mem (d := []) HLs.out))
      generalize slA' (us.getD k bkz).1 = A1 at *
      generalize slC' (us.getD k bkz).1 = C1 at *
      generalize (us.getD k bkz).2.1 = z1 at *
      generalize slA' (us.getD k bkz).2.2 = A2 at *
      generalize slC' (us.getD k bkz).2.2 = C2 at *
      rw [hen] at HRw HEl
      obtain ⟨no, hno⟩ : ∃ n, (g.blks.getD k Gr.blk0).ops.length = n := ⟨_, rfl⟩
      rw [hno] at x0
      obtain ⟨L, hL⟩ : ∃ L, (lsL g tos).getD k [] = L := ⟨_, rfl⟩
      have HLe := Lib.hid hL
      rw [hL] at x2 HMv HRw HEl
      have hbk : Below wr.heap.size wr (wr.alloc (.cells #[.slice A1 no C1, .int .i64 z1, .slice A2 L.length C2] 34)) := bla (Below.refl _ _) _
      have HS1 := Lib.hid (show (Rn base g tos (.slice Ai ni ci) (.slice Aa na ca) (.slice (some ⟨Q, 0, none⟩) nb cb) (.slice Ap np cp) (.slice Ah nh ch) (.slice At nt ct) us ps ts (Me.place (a : Int) (b : Int)) (k) (0) (wr.alloc (.cells #[.slice A1 no C1, .int .i64 z1, .slice A2 L.length C2] 34)) ∧ Chg base w (wr.alloc (.cells #[.slice A1 no C1, .int .i64 z1, .slice A2 L.length C2] 34)) ∧ Bk (wr.alloc (.cells #[.slice A1 no C1, .int .i64 z1, .slice A2 L.length C2] 34)) w.heap.size 40 #[.slice Ai ni ci, .int .i64 V, .int .i64 K, .slice Aa na ca, .int .i64 S, .slice (some ⟨Q, 0, none⟩) nb cb, .slice Ap np cp, .slice Ah nh ch]) from ⟨HS.out.1.below hbk, HS.out.2.1.trans (Chg.below hbk (Nat.le_trans HBs.out HS.out.2.1.1.size)), HS.out.2.2.below hbk⟩)
      have HT := Lib.hid (Bk.new wr 34 #[.slice A1 no C1, .int .i64 z1, .slice A2 L.length C2])
      have HR1 := Lib.hid (own_below HRw.out hbk)
      clear hat hno hen HRw hL hbk HS
      go_upto_region 4 with fail
      clear x0 x1 x2 hql
      generalize wr.heap.size = t at HT ⊢
      generalize hW : World.alloc wr (.cells #[.slice A1 no C1, .int .i64 z1, .slice A2 L.length C2] 34) = W1 at HS1 HT HR1 ⊢
      clear hW
      have t2 := HT.out.cell 2
      go_wp2_with fail
      refine (move_any base (.slice A2 L.length C2) L (a : Int) (b : Int) W1 HR1.out HMv.out.2 (by have := HMv.out.1; omega) (by have := HQ.out.2.2.1; omega) (by have := HQ.out.2.2.2; omega)).mono ?_
      rintro e w2 ⟨rfl, hgr, hown⟩
      have HS2 := Lib.hid (show (Rn base g tos (.slice Ai ni ci) (.slice Aa na ca) (.slice (some ⟨Q, 0, none⟩) nb cb) (.slice Ap np cp) (.slice Ah nh ch) (.slice At nt ct) us ps ts (Me.place (a : Int) (b : Int)) (k + 1) (0) w2 ∧ Chg base w w2 ∧ Bk w2 w.heap.size 40 #[.slice Ai ni ci, .int .i64 V, .int .i64 K, .slice Aa na ca, .int .i64 S, .slice (some ⟨Q, 0, none⟩) nb cb, .slice Ap np cp, .slice Ah nh ch]) from ⟨HS1.out.1.move HLs.out HEl.out hgr (by rw [HLe.out]; exact hown), HS1.out.2.1.trans (Chg.grown HR1.out (Nat.le_refl _) (Nat.le_trans HBs.out HS1.out.2.1.1.size) (by decide) hgr), bk_grown_t HS1.out.2.2 HR1.out (by decide) hgr⟩)
      clear HS1 HT HR1 t2 hgr hown HMv HLs HEl HLe
      go_wp2
      go_roundw
      case rel => exact ⟨k + 1, by omega, by first | rfl | go_num, HS2⟩
      case measure => simp [intOf]; omega
    · have hlt' : ¬ (k : Int) < nb := by omega
      obtain rfl : nb = k := by omega
      have g6 := HS.out.2.2.cell 6
      have hbk : Below wr.heap.size wr (wr.alloc (.cells #[.slice Ap np cp, .slice At nt ct] 37)) := bla (Below.refl _ _) _
      have HS1 := Lib.hid (show (Rn base g tos (.slice Ai ni ci) (.slice Aa na ca) (.slice (some ⟨Q, 0, none⟩) nb cb) (.slice Ap np cp) (.slice Ah nh ch) (.slice At nt ct) us ps ts (Me.place (a : Int) (b : Int)) (nb) (0) (wr.alloc (.cells #[.slice Ap np cp, .slice At nt ct] 37)) ∧ Chg base w (wr.alloc (.cells #[.slice Ap np cp, .slice At nt ct] 37)) ∧ Bk (wr.alloc (.cells #[.slice Ap np cp, .slice At nt ct] 37)) w.heap.size 40 #[.slice Ai ni ci, .int .i64 V, .int .i64 K, .slice Aa na ca, .int .i64 S, .slice (some ⟨Q, 0, none⟩) nb cb, .slice Ap np cp, .slice Ah nh ch]) from ⟨HS.out.1.below hbk, HS.out.2.1.trans (Chg.below hbk (Nat.le_trans HBs.out HS.out.2.1.1.size)), HS.out.2.2.below hbk⟩)
      have HT := Lib.hid (Bk.new wr 37 #[.slice Ap np cp, .slice At nt ct])
      clear hbk HS
      go_wp2_with fail
      generalize hW : World.alloc wr (.cells #[.slice Ap np cp, .slice At nt ct] 37) = W1 at HS1 HT ⊢
      clear hW
      generalize wr.heap.size = t at HT ⊢
      refine (lconcat_any ps ts np nt Ap At cp ct t W1 (by have := RowIn.own HS1.out.1.prow; rw [HNs.out.2.1] at this; exact this) (by have := RowIn.own HS1.out.1.trow; rw [HNs.out.2.2.2] at this; exact this) HS1.out.1.one.1 HS1.out.1.one.2 (by omega) (by omega) (HT.out.cell 0) (HT.out.cell 1) HT.out.lt).mono ?_
      rintro e w2 ⟨A3, C3, rfl, hown, hb2⟩
      have HS2 := Lib.hid (show (Rn base g tos (.slice Ai ni ci) (.slice Aa na ca) (.slice (some ⟨Q, 0, none⟩) nb cb) (.slice Ap np cp) (.slice Ah nh ch) (.slice At nt ct) us ps ts (Me.place (a : Int) (b : Int)) (nb) (0) w2 ∧ Chg base w w2 ∧ Bk w2 w.heap.size 40 #[.slice Ai ni ci, .int .i64 V, .int .i64 K, .slice Aa na ca, .int .i64 S, .slice (some ⟨Q, 0, none⟩) nb cb, .slice Ap np cp, .slice Ah nh ch]) from ⟨HS1.out.1.below hb2, HS1.out.2.1.trans (Chg.below hb2 (Nat.le_trans HBs.out HS1.out.2.1.1.size)), HS1.out.2.2.below hb2⟩)
      have HCo := Lib.hid hown
      generalize hWs : W1.heap.size = b1 at HCo
      clear hb2 hown HS1 HT g6 hWs
      go_wp2
      have HL0 := Lib.hid (show Rn base g tos (.slice Ai ni ci) (.slice Aa na ca) (.slice (some ⟨Q, 0, none⟩) nb cb) (.slice Ap np cp) (.slice Ah nh ch) (.slice At nt ct) us ps ts (Me.place (a : Int) (b : Int)) (nb + 0) (0) w2 ∧ Chg base w w2 ∧ Bk w2 w.heap.size 40 #[.slice Ai ni ci, .int .i64 V, .int .i64 K, .slice Aa na ca, .int .i64 S, .slice (some ⟨Q, 0, none⟩) nb cb, .slice Ap np cp, .slice Ah nh ch] from HS2.out)
      clear HS2
      go_loopw [33, 11] (fun i _ wr => ∃ (j : Nat), j ≤ np + nt ∧ i = .int .i64 j ∧ Hid ((Rn base g tos (.slice Ai ni ci) (.slice Aa na ca) (.slice (some ⟨Q, 0, none⟩) nb cb) (.slice Ap np cp) (.slice Ah nh ch) (.slice At nt ct) us ps ts (Me.place (a : Int) (b : Int)) (nb + j) (0) wr ∧ Chg base w wr ∧ Bk wr w.heap.size 40 #[.slice Ai ni ci, .int .i64 V, .int .i64 K, .slice Aa na ca, .int .i64 S, .slice (some ⟨Q, 0, none⟩) nb cb, .slice Ap np cp, .slice Ah nh ch]) ∧ wr.ownsRow b1 32 1 (.slice A3 (np + nt) C3) (np + nt) (ps ++ ts))) (fun i _ _ => np + nt - (intOf i).toNat)
      case atStart => exact ⟨0, Nat.zero_le _, rfl, Lib.hid ⟨HL0.out, HCo.out⟩⟩
      case round =>
        clear HL0 HCo
        obtain ⟨j, hj, rfl, HS⟩ := hrel
        by_cases hlt : j < np + nt
        · have hlt2 : (j : Int) < (np : Int) + (nt : Int) := by omega
          have hlt0 : (0 : Int) ≤ (j : Int) := by omega
          obtain ⟨q3, d3, e3, hq0, hq1, hqc, -⟩ := own_at (d := nl) HS.out.2 hlt
          injection e3 with e3 e4 e5
          subst e3 e5
          clear e4
          have HLs := Lib.hid (show nb + j < (lsL g tos).length by rw [HS.out.1.1.flen, HNs.out.1, HNs.out.2.1, HNs.out.2.2.2]; omega)
          have HEl := Lib.hid (show (nxv us ++ (ps ++ ts)).getD (nb + j) nl = (ps ++ ts).getD j nl from ap_right (by rw [nxv_len, HU.out]; exact HNs.out.1))
          have HRw := Lib.hid (show wr.ownsRow base 3 1 ((ps ++ ts).getD j nl) ((lsL g tos).getD (nb + j) []).length (((lsL g tos).getD (nb + j) []).map (.int .i64)) from HEl.out ▸ HS.out.1.1.rowK HLs.out)
          have hen := own_sl HRw.out
          rw [hen] at hqc
          have HMv := Lib.hid (HQ.out.1 _ (Me.getD_mem (d := []) HLs.out))
          generalize slA' ((ps ++ ts).getD j nl) = A2 at *
          generalize slC' ((ps ++ ts).getD j nl) = C2 at *
          rw [hen] at HRw HEl
          obtain ⟨L, hL⟩ : ∃ L, (lsL g tos).getD (nb + j) [] = L := ⟨_, rfl⟩
          have HLe := Lib.hid hL
          rw [hL] at hqc HMv HRw HEl
          clear hen hL
          go_wp2_with fail
          refine (move_any base (.slice A2 L.length C2) L (a : Int) (b : Int) wr HRw.out HMv.out.2 (by have := HMv.out.1; omega) (by have := HQ.out.2.2.1; omega) (by have := HQ.out.2.2.2; omega)).mono ?_
          rintro e w3 ⟨rfl, hgr, hown⟩
          have HS3 := Lib.hid (show (Rn base g tos (.slice Ai ni ci) (.slice Aa na ca) (.slice (some ⟨Q, 0, none⟩) nb cb) (.slice Ap np cp) (.slice Ah nh ch) (.slice At nt ct) us ps ts (Me.place (a : Int) (b : Int)) (nb + (j + 1)) (0) w3 ∧ Chg base w w3 ∧ Bk w3 w.heap.size 40 #[.slice Ai ni ci, .int .i64 V, .int .i64 K, .slice Aa na ca, .int .i64 S, .slice (some ⟨Q, 0, none⟩) nb cb, .slice Ap np cp, .slice Ah nh ch]) ∧ w3.ownsRow b1 32 1 (.slice (some ⟨q3, 0, none⟩) (np + nt) C3) (np + nt) (ps ++ ts) from ⟨⟨HS.out.1.1.move HLs.out HEl.out hgr (by rw [HLe.out]; exact hown), HS.out.1.2.1.trans (Chg.grown HRw.out (Nat.le_refl _) (Nat.le_trans HBs.out HS.out.1.2.1.1.size) (by decide) hgr), bk_grown_t HS.out.1.2.2 HRw.out (by decide) hgr⟩, own_grown_t HS.out.2 HRw.out (by decide) hgr⟩)
          clear HS HRw hgr hown HMv HLs HEl HLe hqc hq1 hq0
          go_wp2
          go_roundw
          case rel => exact ⟨j + 1, by omega, by first | rfl | go_num, HS3⟩
          case measure => simp [intOf]; omega
        · have hlt2 : ¬ (j : Int) < (np : Int) + (nt : Int) := by omega
          obtain rfl : j = np + nt := by omega
          have HS4 := Lib.hid (show Rn base g tos (.slice Ai ni ci) (.slice Aa na ca) (.slice (some ⟨Q, 0, none⟩) nb cb) (.slice Ap np cp) (.slice Ah nh ch) (.slice At nt ct) us ps ts (Me.place (a : Int) (b : Int)) ((lsL g tos).length) (0) wr ∧ Chg base w wr ∧ Bk wr w.heap.size 40 #[.slice Ai ni ci, .int .i64 V, .int .i64 K, .slice Aa na ca, .int .i64 S, .slice (some ⟨Q, 0, none⟩) nb cb, .slice Ap np cp, .slice Ah nh ch] from ⟨by rw [HS.out.1.1.flen, HNs.out.1, HNs.out.2.1, HNs.out.2.2.2]; exact HS.out.1.1, HS.out.1.2⟩)
          clear HS
          have g7 := HS4.out.2.2.cell 7
          go_wp2
          clear g7
          go_loopw [45, 12, 13] (fun i _ _ wr => ∃ (j : Nat), j ≤ nh ∧ i = .int .i64 j ∧ Hid (Rn base g tos (.slice Ai ni ci) (.slice Aa na ca) (.slice (some ⟨Q, 0, none⟩) nb cb) (.slice Ap np cp) (.slice Ah nh ch) (.slice At nt ct) us ps ts (Me.place (a : Int) (b : Int)) ((lsL g tos).length) (j) wr ∧ Chg base w wr ∧ Bk wr w.heap.size 40 #[.slice Ai ni ci, .int .i64 V, .int .i64 K, .slice Aa na ca, .int .i64 S, .slice (some ⟨Q, 0, none⟩) nb cb, .slice Ap np cp, .slice Ah nh ch])) (fun i _ _ _ => nh - (intOf i).toNat)
          case atStart => exact ⟨0, Nat.zero_le _, rfl, HS4⟩
          case round =>
            clear HS4
            obtain ⟨j, hj, rfl, HS⟩ := hrel
            by_cases hlt : j < nh
            · have hlt' : (j : Int) < (nh : Int) := by omega
              have hlt0 : (0 : Int) ≤ (j : Int) := by omega
              have hjh : j < g.hds.length := by rw [HNs.out.2.2.1]; exact hlt
              obtain ⟨q, rfl⟩ := own_pos HS.out.1.hds (by omega)
              have hcl := prs_at (i := j) (HNs.out.2.2.1 ▸ HS.out.1.hds) (by rw [mxg_len]; exact hjh)
              rw [mxg_at _ (0, 0) hjh] at hcl
              have x0 := hcl.1
              have x1 := hcl.2.1
              have hql := hcl.2.2.2.2
              have hhx := HQ.out.2.1 _ (Me.getD_mem (d := ((0, 0) : Int × Int)) hjh)
              obtain ⟨z, hz⟩ : ∃ z, (g.hds.getD j (0, 0)).1 = z := ⟨_, rfl⟩
              obtain ⟨m, hm⟩ : ∃ z, (g.hds.getD j (0, 0)).2 = z := ⟨_, rfl⟩
              have HZ := Lib.hid hz
              rw [hz] at x0 hhx
              rw [hm] at x1
              have HPl := Lib.hid fun (W : World) => place_any z (a : Int) (b : Int) hhx (by have := HQ.out.2.2.1; omega) (by have := HQ.out.2.2.2; omega) _ rfl W
              have hbk : Below wr.heap.size wr (wr.alloc (.cells #[.int .i64 z, .int .i64 m] 52)) := bla (Below.refl _ _) _
              have HS1 := Lib.hid (show (Rn base g tos (.slice Ai ni ci) (.slice Aa na ca) (.slice (some ⟨Q, 0, none⟩) nb cb) (.slice Ap np cp) (.slice (some ⟨q, 0, none⟩) nh ch) (.slice At nt ct) us ps ts (Me.place (a : Int) (b : Int)) ((lsL g tos).length) (j) (wr.alloc (.cells #[.int .i64 z, .int .i64 m] 52)) ∧ Chg base w (wr.alloc (.cells #[.int .i64 z, .int .i64 m] 52)) ∧ Bk (wr.alloc (.cells #[.int .i64 z, .int .i64 m] 52)) w.heap.size 40 #[.slice Ai ni ci, .int .i64 V, .int .i64 K, .slice Aa na ca, .int .i64 S, .slice (some ⟨Q, 0, none⟩) nb cb, .slice Ap np cp, .slice (some ⟨q, 0, none⟩) nh ch]) from ⟨HS.out.1.below hbk, HS.out.2.1.trans (Chg.below hbk (Nat.le_trans HBs.out HS.out.2.1.1.size)), HS.out.2.2.below hbk⟩)
              have HT := Lib.hid (Bk.new wr 52 #[.int .i64 z, .int .i64 m])
              clear hcl hz hm hhx hbk HS
              go_upto_region 14 with fail
              clear x0 x1 hql
              generalize wr.heap.size = t at HT ⊢
              generalize hW : World.alloc wr (.cells #[.int .i64 z, .int .i64 m] 52) = W1 at HS1 HT ⊢
              clear hW
              have g7 := HS1.out.2.2.cell 7
              have t0 := HT.out.cell 0
              have hcl := prs_at (i := j) (HNs.out.2.2.1 ▸ HS1.out.1.hds) (by rw [mxg_len]; exact hjh)
              have y0 := hcl.1
              have y1 := hcl.2.2.1
              have hql := hcl.2.2.2.2
              clear hcl
              go_region_with (go_at_call 111; refine (HPl.out _).mono ?_; rintro e w9 ⟨rfl, hw⟩; obtain rfl := hw.symm)
              all_goals
                have HS5 := Lib.hid (show (Rn base g tos (.slice Ai ni ci) (.slice Aa na ca) (.slice (some ⟨Q, 0, none⟩) nb cb) (.slice Ap np cp) (.slice (some ⟨q, 0, none⟩) nh ch) (.slice At nt ct) us ps ts (Me.place (a : Int) (b : Int)) ((lsL g tos).length) (j + 1) (World.setCell W1 ⟨q, j * 2, none⟩ (.int .i64 (Me.place (a : Int) (b : Int) z))).drew ∧ Chg base w (World.setCell W1 ⟨q, j * 2, none⟩ (.int .i64 (Me.place (a : Int) (b : Int) z))).drew ∧ Bk (World.setCell W1 ⟨q, j * 2, none⟩ (.int .i64 (Me.place (a : Int) (b : Int) z))).drew w.heap.size 40 #[.slice Ai ni ci, .int .i64 V, .int .i64 K, .slice Aa na ca, .int .i64 S, .slice (some ⟨Q, 0, none⟩) nb cb, .slice Ap np cp, .slice (some ⟨q, 0, none⟩) nh ch]) from by
                  have h1 := HS1.out.1.head hjh HNs.out.2.2.1.symm
                  rw [HZ.out] at h1
                  have hg := grown_cell W1 q (j * 2) (.int .i64 (Me.place (a : Int) (b : Int) z))
                  have h2 : Chg base W1 (World.setCell W1 ⟨q, j * 2, none⟩ (.int .i64 (Me.place (a : Int) (b : Int) z))) := Chg.grown HS1.out.1.hds (Nat.le_refl _) (Nat.le_trans HBs.out HS1.out.2.1.1.size) (by decide) hg
                  exact ⟨h1.below (below_drewN _ _ 1), (HS1.out.2.1.trans h2).trans (Chg.below (below_drewN _ _ 1) (by rw [World.size_setCell]; exact Nat.le_trans HBs.out HS1.out.2.1.1.size)), (bk_grown_t HS1.out.2.2 HS1.out.1.hds (by decide) hg).below (below_drewN _ _ 1)⟩)
                clear HS1 HT g7 t0 y0 y1 hql HPl HZ
                generalize hW : World.drew _ = W2 at HS5 ⊢
                clear hW
                go_wp2
                go_roundw
                case rel => exact ⟨j + 1, by omega, by first | rfl | go_num, HS5⟩
                case measure => simp [intOf]; omega
            · have hlt' : ¬ (j : Int) < (nh : Int) := by omega
              obtain rfl : j = nh := by omega
              have HFin := Lib.hid (show Gm base (rnG (Me.place (a : Int) (b : Int)) g) (tos.map (List.map (Me.place (a : Int) (b : Int)))) (.slice Ai ni ci) (.slice Aa na ca) (.slice (some ⟨Q, 0, none⟩) nb cb) (.slice Ap np cp) (.slice Ah j ch) (.slice At nt ct) us ps ts wr from Rn.fin (by rw [HNs.out.2.2.1]; exact HS.out.1))
              have HC := Lib.hid HS.out.2.1
              clear HS
              go_wp2
              go_end0
              exact ⟨rfl, HFin.out, HC.out⟩
end Go.Proofs.Ytojnhdkclabkgaa
