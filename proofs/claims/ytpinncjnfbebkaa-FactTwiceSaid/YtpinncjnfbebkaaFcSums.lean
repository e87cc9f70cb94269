/- The code of layer 11: the sums of the coefficients of each block. No condition. -/
import Derived.Test.YtpinncjnfbebkaaFcDel
namespace Go.Proofs.Ytpinncjnfbebkaa
open Go.RowKit
set_option linter.unusedVariables false
set_option linter.unusedSimpArgs false
attribute [local go_sem] y_undef
/-- What is added up so far: a row behind B. -/
def Sq (B : Nat) (w2 : World) (x : Value) (q : Fa.Tms) (u : World) : Prop := Below B w2 u ∧ B ≤ u.heap.size ∧ u.ownsRow B 36 2 x q.length (q.flatMap prCells)
section
variable {B : Nat} {w2 u u' : World} {x : Value} {q : Fa.Tms}
theorem Sq.below (h : Sq B w2 x q u) (hb : Below u.heap.size u u') : Sq B w2 x q u' := ⟨h.1.trans (hb.mono h.2.1), Nat.le_trans h.2.1 hb.size, own_below h.2.2 hb⟩
theorem Sq.alloc (h : Sq B w2 x q u) (o : Obj) : Sq B w2 x q (u.alloc o) := h.below ((Below.refl _ _).alloc (Nat.le_refl _) o)
theorem Sq.app (h : Sq B w2 x q u) {x' : Value} {t : Int × Int} (hown : u'.ownsRow B 36 2 x' (q.length + 1) (q.flatMap prCells ++ prCells t)) (hg : u.grownBy u' x.ownBlock) : Sq B w2 x' (q ++ [t]) u' :=
  ⟨h.1.grown hg h.2.1 (fun k hk => (h.2.2.lt k hk).1), Nat.le_trans h.2.1 hg.size, by rw [List.flatMap_append]; simpa using hown⟩
theorem Sq.coef {g m cap : Nat} (h : Sq B w2 (.slice (some ⟨g, 0, none⟩) (m + 1) cap) q u) (hq : q.length = m + 1) (y : Int) : Sq B w2 (.slice (some ⟨g, 0, none⟩) (m + 1) cap) (q.set m ((q.getD m (0, 0)).1, y)) (u.setCell ⟨g, m * 2 + 1, none⟩ (.int .i64 y)) := by
  obtain ⟨h1, h2, h3⟩ := h
  have hg := (h3.lt g rfl).1
  rw [hq] at h3
  have h4 := own_coef h3 (i := m) (by omega) y
  exact ⟨h1.setCell hg _, by simpa using h2, by rw [List.length_set, hq]; exact h4.1⟩
end
set_option maxHeartbeats 8000000 in
set_option maxRecDepth 100000 in
theorem fsums_any (l : Fa.Tms) (v : Value) (w : World) (hv : PrsIn w v l) (hm : l.length ≤ 1024) (ht : ∀ j, j < l.length → Fa.tbad (l.getD j (0, 0)) = false) :
    Calls Try.prog 44 #[v] w fun e w' => ∃ v', e = .returned v' ∧ w'.ownsRow w.heap.size 36 2 v' (Fa.normTo l 256).length ((Fa.normTo l 256).flatMap prCells) ∧ Below w.heap.size w w' := by
  have HC := Lib.hid (fclone_any l v w hv (by omega))
  have HT := Lib.hid (show ∀ t ∈ l, (0 ≤ t.1 ∧ t.1 ≤ 255) ∧ (-1048576 ≤ t.2 ∧ t.2 ≤ 1048576) from fun t hm => by
    obtain ⟨j, hj, e⟩ := List.getElem_of_mem hm
    have := Fa.t_ok (ht j hj)
    simpa [List.getD, List.getElem?_eq_getElem hj, e] using this)
  have HMl := Lib.hid hm
  obtain ⟨iT, hi0, hz0, hz1, hz2⟩ := info_parts Try.infoTm
  have HIT := Lib.hid (And.intro hi0 (And.intro hz0 (And.intro hz1 hz2)))
  clear hi0 hz0 hz1 hz2 hv ht hm
  go_enter Try.func44, Try.ntmps44
  go_wp2_with fail
  refine HC.out.mono ?_
  rintro e w1 ⟨v1, rfl, hO1, hb1⟩
  have HB1 := Lib.hid hb1
  have HS := Lib.hid (fsort_any l v1 w.heap.size w1 hO1 HMl.out)
  clear hb1 hO1 HC
  go_wp2_with fail
  refine HS.out.mono ?_
  rintro e w2 ⟨rfl, l', hp, hs, hO2, hg2⟩
  obtain ⟨A, c, rfl, ho⟩ := (show PrsIn w2 v1 l' from RowIn.own hO2).opened
  have HO := Lib.hid ho
  have hln : l'.length = l.length := hp.length_eq
  obtain ⟨n, hn⟩ : ∃ n, l'.length = n := ⟨_, rfl⟩
  have HN := Lib.hid hn
  have HP := Lib.hid hp
  have HSo := Lib.hid hs
  have hn1024 : n ≤ 1024 := by have := HMl.out; omega
  have HB2 := Lib.hid (show Below w.heap.size w w2 from HB1.out.grown hg2 HB1.out.size (fun k hk => (hO2.lt k hk).1))
  have HT' := Lib.hid (show ∀ t ∈ l', (0 ≤ t.1 ∧ t.1 ≤ 255) ∧ (-1048576 ≤ t.2 ∧ t.2 ≤ 1048576) from fun t hm => HT.out t (hp.mem_iff.1 hm))
  have HQ0 := Lib.hid (show Sq w2.heap.size w2 (.slice none 0 0) (Fa.mrg (l'.take 0)) w2 from ⟨Below.refl _ _, Nat.le_refl _, World.ownsRow_nil _ _ _ _⟩)
  rw [hn] at HO ⊢
  clear hn ho hp hs hO2 hg2 hln HS HB1
  go_wp2
  go_loopw [4, 6, 7, 14] (fun x _ _ i wr => ∃ k : Nat, k ≤ n ∧ i = .int .i64 k ∧ Hid (Sq w2.heap.size w2 x (Fa.mrg (l'.take k)) wr)) (fun _ _ _ i _ => n - (intOf i).toNat)
  case atStart => exact ⟨0, Nat.zero_le _, rfl, HQ0⟩
  case round =>
    clear HQ0
    obtain ⟨k, hk, rfl, HQ⟩ := hrel
    by_cases hlt : k < n
    · have hlt' : (k : Int) < n := by omega
      obtain ⟨b, off, rfl, hbb, hx, hy⟩ := HO.out k hlt
      replace hx := (HQ.out.1.cell (p := ⟨b, off + k * 2, none⟩) hbb).trans hx
      replace hy := (HQ.out.1.cell (p := ⟨b, off + k * 2 + 1, none⟩) hbb).trans hy
      have hstep := Fa.mrg_step (l := l') (k := k) (by have := HN.out; omega)
      have hql := Fa.mrg_len (l := l') k (by have := HN.out; omega)
      have hbd : ∀ s ∈ Fa.mrg (l'.take k), -1073741824 ≤ s.2 ∧ s.2 ≤ 1073741824 := fun s hs => Fa.mrg_bds HSo.out (fun t ht => (HT'.out t ht).2) (by have := HN.out; omega) (by have := HN.out; omega) hs
      have htt := (HT'.out _ (Fa.getD_mem (l := l') (j := k) (by have := HN.out; omega))).2
      obtain ⟨⟨x, y⟩, hxy⟩ : ∃ t, l'.getD k (0, 0) = t := ⟨_, rfl⟩
      rw [hxy] at hx hy hstep htt
      simp only at hx hy htt
      clear hxy
      generalize Fa.mrg (l'.take k) = q at HQ hstep hql hbd
      have HStep := Lib.hid hstep
      have HBd := Lib.hid hbd
      clear hstep hbd
      obtain ⟨Q, hQ⟩ : ∃ Q, q.length = Q := ⟨_, rfl⟩
      have HQl := Lib.hid hQ
      have HB4 := Lib.hid HQ.out.2.1
      have HNa := Lib.hid (show ∀ (u : World), u.heap.size = wr.heap.size + 1 → ∀ i t, (prCells (x, y))[i]? = some t → (u.alloc (.cells #[.int .i64 x, .int .i64 y] 36)).cell? ((⟨wr.heap.size + 1, 0, none⟩ : Addr).add i) = some t from fun u hu => by
        rw [← hu]
        exact World.news_of_block (w := u.alloc (.cells #[.int .i64 x, .int .i64 y] 36)) (cs := #[.int .i64 x, .int .i64 y]) (heap_alloc_new u _))
      have HC8 := Lib.hid (show ∀ u ∈ prCells (x, y), u.oneCell' = true by intro u hu; simp [prCells] at hu; rcases hu with rfl | rfl <;> rfl)
      have hq1024 : q.length ≤ 1024 := by omega
      have HA := Lib.hid (HQ.out.alloc (.cells #[.int .i64 x, .int .i64 y] 36))
      cases hQc : q.length with
      | zero =>
        have HJ := Lib.hid (show Fa.push q (x, y) = q ++ [(x, y)] by
          have e : q = [] := List.eq_nil_of_length_eq_zero hQc
          subst e; rfl)
        obtain ⟨A4, c4, hu4, _⟩ := (show PrsIn wr _ q from RowIn.own HQ.out.2.2).opened
        rw [hQc] at hu4
        subst hu4
        clear hQc hql
        go_wp2_with fail
        go_quiet (fail)
        go_wp2_with (at_builtin; refine wpList_append_own_at _ rfl (.tmp 43) (.tmp 45) 28 rfl w2.heap.size 36 iT _ 2 16 Try.underlying28 HIT.out.1 HIT.out.2.1 HIT.out.2.2.1 HIT.out.2.2.2 rfl (by decide) (.slice A4 0 c4) q.length (q.flatMap prCells) rfl ((HA.out.below (below_drewN _ _ _)).alloc _).2.2 ⟨wr.heap.size + 1, 0, none⟩ 1 1 (prCells (x, y)) rfl rfl (HNa.out _ (by simp)) HC8.out (by unfold maxLen; omega) (by omega) (by have := HB4.out; simp; omega) ?_; intro v' w' hown hgr _ hvo; have HX := Lib.hid (((HA.out.below (below_drewN _ _ _)).alloc _).app (t := (x, y)) hown hgr); clear hown hgr hvo)
        go_roundw
        case rel => exact ⟨k + 1, by omega, by first | rfl | go_num, Lib.hid (by rw [HStep.out, HJ.out]; exact HX.out)⟩
        case measure => simp [intOf]; omega
      | succ m =>
        have HQm := Lib.hid hQc
        obtain ⟨g, cap, hu4, hbg, hgl⟩ := HQ.out.2.2.form (by omega)
        rw [hQc] at hu4
        subst hu4
        have hO4 := HQ.out.2.2
        rw [hQc] at hO4
        obtain ⟨hq1, hq2⟩ := own_cells hO4 (i := m) (by omega)
        have hfz := hO4.frozenAt
        have hb2 := HBd.out _ (Fa.getD_mem (l := q) (j := m) (by omega))
        have hj : Fa.joins q (x, y) = decide ((q.getD m (0, 0)).1 = x) := by
          unfold Fa.joins
          rw [hQc]
          simp
        have hpu : Fa.push q (x, y) = if Fa.joins q (x, y) = true then q.set m ((q.getD m (0, 0)).1, (q.getD m (0, 0)).2 + y) else q ++ [(x, y)] := by
          unfold Fa.push
          rw [hQc]
          rfl
        have HCo := Lib.hid (fun (u : World) (z : Int) (h : Sq w2.heap.size w2 (.slice (some ⟨g, 0, none⟩) (m + 1) cap) q u) => h.coef hQc z)
        obtain ⟨x1, hx1⟩ : ∃ z, (q.getD m (0, 0)).1 = z := ⟨_, rfl⟩
        obtain ⟨x2, hx2⟩ : ∃ z, (q.getD m (0, 0)).2 = z := ⟨_, rfl⟩
        rw [hx1] at hq1 hj hpu HCo
        rw [hx2] at hq2 hb2 hpu
        have wm : IntKind.i64.wrap (((m + 1 : Nat) : Int) - 1) = (m : Int) := by rw [IntWalk.i64_in] <;> omega
        have wm2 : IntKind.i64.wrap (m : Int) = (m : Int) := by rw [IntWalk.i64_in]; omega
        have wm3 : wrap64 (((m + 1 : Nat) : Int) - 1) = (m : Int) := by rw [IntWalk.wrap64_in] <;> omega
        have hmn' : (0 : Int) ≤ (m : Int) ∧ (m : Int) < ((m + 1 : Nat) : Int) := by omega
        have w3 : IntKind.i64.wrap (x2 + y) = x2 + y := IntWalk.i64_in _ (by omega)
        clear hO4 hx1 hx2 hQc hql hb2
        by_cases he : x1 = x
        · have he' : (x1 == x) = true := by simp [he]
          have HJ := Lib.hid (show Fa.push q (x, y) = q.set m (x1, x2 + y) by rw [hpu, hj, if_pos (by simp [he])])
          clear hj hpu
          have hmn2 : (0 : Int) ≤ (m : Int) ∧ (m : Int) < (m : Int) + 1 := by omega
          go_wp2_with fail
          go_quiet (fail)
          go_wp2_with fail
          go_region_with (fail)
          all_goals
            go_wp2
            go_roundw
            case rel => exact ⟨k + 1, by omega, by first | rfl | go_num, Lib.hid (by rw [HStep.out, HJ.out]; first | exact HCo.out _ _ (HA.out.below (below_drewN _ _ _)) | exact HCo.out _ _ ((HA.out.below (below_drewN _ _ _)).below (below_drewN _ _ 1)))⟩
            case measure => simp [intOf]; omega
        · have he' : (x1 == x) = false := by simp [he]
          have HJ := Lib.hid (show Fa.push q (x, y) = q ++ [(x, y)] by rw [hpu, hj, if_neg (by simp [he])])
          clear hj hpu
          have hmn2 : (0 : Int) ≤ (m : Int) ∧ (m : Int) < (m : Int) + 1 := by omega
          go_wp2_with fail
          go_quiet (fail)
          go_wp2_with (at_builtin; refine wpList_append_own_at _ rfl (.tmp 43) (.tmp 45) 28 rfl w2.heap.size 36 iT _ 2 16 Try.underlying28 HIT.out.1 HIT.out.2.1 HIT.out.2.2.1 HIT.out.2.2.2 rfl (by decide) (.slice (some ⟨g, 0, none⟩) (m + 1) cap) q.length (q.flatMap prCells) rfl ((HA.out.below (below_drewN _ _ _)).alloc _).2.2 ⟨wr.heap.size + 1, 0, none⟩ 1 1 (prCells (x, y)) rfl rfl (HNa.out _ (by simp)) HC8.out (by unfold maxLen; omega) (by omega) (by have := HB4.out; simp; omega) ?_; intro v' w' hown hgr _ hvo; have HX := Lib.hid (((HA.out.below (below_drewN _ _ _)).alloc _).app (t := (x, y)) hown hgr); clear hown hgr hvo)
          go_roundw
          case rel => exact ⟨k + 1, by omega, by first | rfl | go_num, Lib.hid (by rw [HStep.out, HJ.out]; exact HX.out)⟩
          case measure => simp [intOf]; omega
    · have hlt' : ¬ (k : Int) < n := by omega
      obtain rfl : k = n := by omega
      have hQ := HQ.out
      rw [show l'.take k = l' by rw [← HN.out, List.take_length]] at hQ
      have hdl := fdel_any (Fa.mrg l') u4 w2.heap.size wr hQ.2.2 (by have := Fa.mrg_len (l := l') l'.length (Nat.le_refl _); rw [List.take_length] at this; have := HN.out; omega)
      rw [Fa.left_is HSo.out HP.out (fun t hm => by have := (HT.out t hm).1; omega)] at hdl
      have HD := Lib.hid hdl
      have HQf := Lib.hid hQ
      clear hdl hQ
      go_wp2_with fail
      refine HD.out.mono ?_
      rintro e w9 ⟨v9, rfl, hO9, hg9⟩
      have HO9 := Lib.hid hO9
      have HB9 := Lib.hid (show Below w.heap.size w w9 from ((HB2.out.trans (HQf.out.1.mono HB2.out.size))).grown hg9 (Nat.le_trans HB2.out.size HQf.out.2.1) (fun k hk => Nat.le_trans HB2.out.size (HQf.out.2.2.lt k hk).1))
      clear hO9 hg9
      go_wp2
      go_ret
      exact ⟨_, rfl, HO9.out.mono HB2.out.size, HB9.out⟩
end Go.Proofs.Ytpinncjnfbebkaa
