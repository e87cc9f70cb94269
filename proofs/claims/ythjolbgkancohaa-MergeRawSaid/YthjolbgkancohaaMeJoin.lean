/- The code of layer 16: two blocks become one. No condition. -/
import Derived.Test.YthjolbgkancohaaMeGj
import Derived.Test.YthjolbgkancohaaStLast
import Derived.RegionTactic
import Derived.ArgAppend
import Derived.Deep.RegionLawGrows
import Derived.StillTailTactics
import Derived.Deep.DeepCutAuto
import Derived.Deep.CutBlock
namespace Go.Proofs.Ythjolbgkancohaa
open Go.RowKit
set_option linter.unusedVariables false
set_option linter.unusedSimpArgs false
attribute [local go_sem] y_undef
/-- A builtin whose run is known, at a step of a region that draws its order. -/
theorem step_run {P : Program} {w w' : World} {ops : Array Oper} {o : Oper} {a : Act} {K : Act → World → Prop} {Q : Exit → Act → World → Prop} {E : Prop} (hgd : o.guard = none) (s x : Operand) (t : TypeId)
    (ho : o.op = .call { callee := .builtin .append, args := #[s, x], argTypes := #[t, t] }) {v vx v' : Value} (hs : a.eval s = v) (hx : a.eval x = vx) (hrun : ∀ ty, (Builtin.append_ #[t, t] ty #[v, vx]).run P w = .ok v' w') (h : K (a.put o.dst v') w') :
    if Region.wanted o (yielded ops a.tmps) = true then Oper.wp P o a w K Q else E := by
  have hw : Region.wanted o (yielded ops a.tmps) = true := by simp [Region.wanted, hgd]
  rw [if_pos hw]
  unfold Oper.wp
  simp [execOp, ho, resolve, invoke, builtin, hs, hx, hrun, Result.andThen]
  exact h
theorem set3 (us : List (Value × Int × Value)) (a : Nat) (vA vC : Value) (z : Int) (ha : a < us.length) :
    (((us.set a (vA, (us.getD a bkz).2)).set a (((us.set a (vA, (us.getD a bkz).2)).getD a bkz).1, z, ((us.set a (vA, (us.getD a bkz).2)).getD a bkz).2.2)).set a ((((us.set a (vA, (us.getD a bkz).2)).set a (((us.set a (vA, (us.getD a bkz).2)).getD a bkz).1, z, ((us.set a (vA, (us.getD a bkz).2)).getD a bkz).2.2)).getD a bkz).1, (((us.set a (vA, (us.getD a bkz).2)).set a (((us.set a (vA, (us.getD a bkz).2)).getD a bkz).1, z, ((us.set a (vA, (us.getD a bkz).2)).getD a bkz).2.2)).getD a bkz).2.1, vC)) = us.set a (vA, z, vC) := by
  have e1 : (us.set a (vA, (us.getD a bkz).2)).getD a bkz = (vA, (us.getD a bkz).2) := by rw [Me.getD_set ha, if_pos rfl]
  rw [e1]
  have e2 : ((us.set a (vA, (us.getD a bkz).2)).set a (vA, z, (us.getD a bkz).2.2)).getD a bkz = (vA, z, (us.getD a bkz).2.2) := by rw [Me.getD_set (by rw [List.length_set]; exact ha), if_pos rfl]
  show ((us.set a (vA, (us.getD a bkz).2)).set a (vA, z, (us.getD a bkz).2.2)).set a ((((us.set a (vA, (us.getD a bkz).2)).set a (vA, z, (us.getD a bkz).2.2)).getD a bkz).1, (((us.set a (vA, (us.getD a bkz).2)).set a (vA, z, (us.getD a bkz).2.2)).getD a bkz).2.1, vC) = _
  rw [e2, List.set_set, List.set_set]
theorem run_append_0 {P : Program} (w : World) (t ty e : TypeId) (i : TypeInfo) (ht : P.underlying t = some (.slice e)) (hi : P.info? e = some i) (base ao : Option Addr) (sLen sCap c : Nat) (hle : sLen ≤ sCap) :
    (Builtin.append_ #[t, t] ty #[.slice base sLen sCap, .slice ao 0 c]).run P w = .ok (.slice base sLen sCap) w := by
  have h0 : (Builtin.firstCells i.size 0 (.slice ao 0 c)).run P w = .ok ([] : List Value).toArray w := by
    cases ao with
    | none => exact run_firstCells_none w i.size 0 0 c
    | some a => exact run_firstCells_some (P := P) w i.size 0 a 0 c [] (by simp) (by intro j u hj; simp at hj)
  cases base <;> simp [Builtin.append_, run_underlying ht, sizeOf, typeInfo, hi, Builtin.lenOf, hle, h0, storeCells]
/-- What join answers. -/
def JoinPost (base : Nat) (g : Gr.G) (tos : List (List Int)) (vi va vp vh vt : Value) (ps ts : List Value) (a b : Nat) (w : World) (e : Ending) (w' : World) : Prop :=
  ∃ vb2 us2, e = .returned vb2 ∧ Gm base { g with blks := Me.jb g.blks a b } tos vi va vb2 vp vh vt us2 ps ts w' ∧ Chg base w w'
theorem one_bkJ {l : List (Value × Int × Value)} (h : ∀ x ∈ l, x.1.oneCell' = true ∧ x.2.2.oneCell' = true) : ∀ u ∈ l.flatMap bkC, u.oneCell' = true := by
  intro u hu
  obtain ⟨t, hm, ht⟩ := List.mem_flatMap.1 hu
  simp [bkC] at ht
  rcases ht with rfl | rfl | rfl
  · exact (h t hm).1
  · rfl
  · exact (h t hm).2
theorem one_opJ {l : List Gr.Op} : ∀ u ∈ l.flatMap opCells, u.oneCell' = true := by
  intro u hu
  obtain ⟨t, _, ht⟩ := List.mem_flatMap.1 hu
  simp [opCells] at ht
  rcases ht with rfl | rfl | rfl | rfl | rfl <;> rfl
/-- append of any row onto a row of the call's own, at a step of a region that draws its order. -/
theorem step_append_row {P : Program} {w : World} {ops : Array Oper} {o : Oper} {a : Act} {K : Act → World → Prop} {Q : Exit → Act → World → Prop} {E : Prop} (hgd : o.guard = none) (s x : Operand) (t : TypeId)
    (ho : o.op = .call { callee := .builtin .append, args := #[s, x], argTypes := #[t, t] })
    (base : Nat) (e : TypeId) (i : TypeInfo) (z : Value) (size bytes : Nat) (ht : P.underlying t = some (.slice e)) (hi : P.info? e = some i) (hz : i.zero = some z)
    (hsize : i.size = size) (hby : i.bytes = bytes) (hzs : z.cells.size = size) (hsz : 0 < size)
    (v : Value) (n : Nat) (xs : List Value) (hs : a.eval s = v) (hown : w.ownsRow base e size v n xs)
    (vx : Value) (m : Nat) (news : List Value) (hx : a.eval x = vx) (hr : RowIn size w vx m news) (h1 : ∀ u ∈ news, u.oneCell' = true)
    (h63 : n + m ≤ maxLen) (hbytes : (n + m) * bytes ≤ 140737488355328) (hbase : base ≤ w.heap.size)
    (h : ∀ v' w', w'.ownsRow base e size v' (n + m) (xs ++ news) → w.grownBy w' v.ownBlock → (v'.ownBlock = v.ownBlock ∨ v'.ownBlock = some w.heap.size) → K (a.put o.dst v') w') :
    if Region.wanted o (yielded ops a.tmps) = true then Oper.wp P o a w K Q else E := by
  have hw : Region.wanted o (yielded ops a.tmps) = true := by simp [Region.wanted, hgd]
  rw [if_pos hw]
  have hrun : ∃ v' w', (Builtin.append_ #[t, t] o.type #[v, vx]).run P w = .ok v' w' ∧ w'.ownsRow base e size v' (n + m) (xs ++ news) ∧ w.grownBy w' v.ownBlock ∧ (v'.ownBlock = v.ownBlock ∨ v'.ownBlock = some w.heap.size) := by
    obtain ⟨A, c, rfl, hl, hcs⟩ := hr
    cases A with
    | none =>
      have h0 : m = 0 := by
        rcases hcs with h | ⟨b, off, e, _⟩
        · exact h
        · exact absurd e (by simp)
      subst h0
      have hn : news = [] := List.eq_nil_of_length_eq_zero (by rw [hl, Nat.zero_mul])
      subst hn
      exact ⟨v, w, run_append_none_c (P := P) (w := w) base t o.type e i size c ht hi v n xs hown, by simpa using hown, World.grownBy.refl w _, .inl rfl⟩
    | some ad =>
      obtain ⟨v', w', h2, h3, h4, h5, h6⟩ := run_append_own_at (P := P) (w := w) base t o.type e i z size bytes ht hi hz hsize hby hzs hsz v n xs hown ad m c news hl (fun j u hj => by
        rcases hcs with h0 | ⟨b, off, e, hlt, hc⟩
        · subst h0
          have hn : news = [] := List.eq_nil_of_length_eq_zero (by rw [hl, Nat.zero_mul])
          subst hn
          simp at hj
        · injection e with e
          subst e
          have := hc j u hj
          rw [show (⟨b, off, none⟩ : Addr).add j = ⟨b, off + j, none⟩ from by unfold Addr.add; split <;> simp_all]
          exact this) h1 h63 hbytes hbase
      exact ⟨v', w', h2, h3, h4, h6⟩
  obtain ⟨v', w', hrun, h2, h3, h4⟩ := hrun
  unfold Oper.wp
  simp [execOp, ho, resolve, invoke, builtin, hs, hx, hrun, Result.andThen]
  exact h _ _ h2 h3 h4
set_option maxHeartbeats 1000000 in
set_option maxRecDepth 100000 in
theorem join_any (base : Nat) (g : Gr.G) (tos : List (List Int)) (vi va vb vp vh vt : Value) (us : List (Value × Int × Value)) (ps ts : List Value) (a b : Nat) (w : World) (h : Gm base g tos vi va vb vp vh vt us ps ts w) (hI : Me.Iv g) (ht : Me.Tk g a b) :
    Calls Try.prog 66 #[vb, .int .i64 (a : Int), .int .i64 (b : Int)] w (JoinPost base g tos vi va vp vh vt ps ts a b w) := by
  obtain ⟨Q, c, rfl, hQb, hQl, a0, a1, a2, hfz⟩ := h.blk.cells ht.la
  have hnc := h.blk.cap
  obtain ⟨Q', c', e', -, -, b0, b1, b2, -⟩ := h.blk.cells ht.lb
  injection e' with e' e2 e3
  injection e' with e'
  injection e' with e' _ _
  subst e' e3
  clear e2
  have hla := ht.la
  have hlb := ht.lb
  have hn := hI.hi
  have ea := own_sl (h.ops a ht.la)
  have eb := own_sl (h.ops b ht.lb)
  have en := own_sl (h.nxt ht.lb)
  rw [ea] at a0
  rw [eb] at b0
  rw [en] at b2
  have HH := Lib.hid h
  generalize slA' (us.getD a bkz).1 = Aa at *
  generalize slC' (us.getD a bkz).1 = Ca at *
  generalize slA' (us.getD b bkz).1 = Ab at *
  generalize slC' (us.getD b bkz).1 = Cb at *
  generalize slA' (us.getD b bkz).2.2 = An at *
  generalize slC' (us.getD b bkz).2.2 = Cn at *
  obtain ⟨cb, hcb⟩ : ∃ z, (us.getD b bkz).2.1 = z := ⟨_, rfl⟩
  rw [hcb] at b1
  generalize (us.getD a bkz).2.1 = ca at *
  obtain ⟨na, hna⟩ : ∃ n, (g.blks.getD a Gr.blk0).ops.length = n := ⟨_, rfl⟩
  obtain ⟨nb, hnb⟩ : ∃ n, (g.blks.getD b Gr.blk0).ops.length = n := ⟨_, rfl⟩
  obtain ⟨nn, hnn⟩ : ∃ n, (g.blks.getD b Gr.blk0).next.length = n := ⟨_, rfl⟩
  rw [hna] at a0
  rw [hnb] at b0
  rw [hnn] at b2
  have HE := Lib.hid (And.intro ea (And.intro eb (And.intro en (And.intro hna (And.intro hnb (And.intro hnn hcb))))))
  obtain ⟨n, hnl⟩ : ∃ n, g.blks.length = n := ⟨_, rfl⟩
  rw [hnl] at hla hlb hn hnc HH ⊢
  have HN := Lib.hid hnl
  have hops : na ≤ 600 ∧ nb ≤ 600 := by
    rw [← hna, ← hnb]
    exact ⟨hI.op a, hI.op b⟩
  clear ea eb en hna hnb hnn hnl h hI hcb
  have la : (a : Int) < (n : Int) := by omega
  have lb : (b : Int) < (n : Int) := by omega
  have za : (0 : Int) ≤ (a : Int) := by omega
  have zb : (0 : Int) ≤ (b : Int) := by omega
  obtain ⟨iTB, hi0, hz0, hz1, hz2⟩ := info_parts info_blk
  have HTB := Lib.hid (And.intro hi0 (And.intro hz0 (And.intro hz1 hz2)))
  have HBw := Lib.hid (show ∀ u, Chg base w u → base ≤ u.heap.size from fun u hu => Nat.le_trans (show base ≤ w.heap.size by omega) hu.1.size)
  have HOne := Lib.hid (show ∀ A n c, ∀ x ∈ us.set a (.slice A n c, (us.getD b bkz).2), x.1.oneCell' = true ∧ x.2.2.oneCell' = true from fun A n c x hx => by
    have hall : ∀ i, i < us.length → (us.getD i bkz).1.oneCell' = true ∧ (us.getD i bkz).2.2.oneCell' = true := fun i hi => by
      have hi' : i < g.blks.length := by rw [← HH.out.ul]; exact hi
      rw [own_sl (HH.out.ops i hi'), own_sl (HH.out.nxt hi')]
      exact ⟨rfl, rfl⟩
    obtain ⟨i, hi, rfl⟩ := Me.mem_get (d := bkz) hx
    rw [List.length_set] at hi
    rw [Me.getD_set hi]
    split
    · exact ⟨rfl, (hall b (by rw [HH.out.ul]; exact ht.lb)).2⟩
    · exact hall i hi)
  clear hi0 hz0 hz1 hz2
  go_enter Try.func66, Try.ntmps66
  go_upto_region 1 with fail
  go_region
  have hbk : Below w.heap.size w (w.alloc (.cells #[.slice Ab nb Cb, .int .i64 cb, .slice An nn Cn] 34)).drew := (bla (Below.refl _ _) _).trans (below_drewN _ _ 1)
  have HX := Lib.hid (HH.out.below hbk)
  have HT := Lib.hid (show Bk (w.alloc (.cells #[.slice Ab nb Cb, .int .i64 cb, .slice An nn Cn] 34)).drew w.heap.size 34 #[.slice Ab nb Cb, .int .i64 cb, .slice An nn Cn] from (Bk.new w _ _).below (below_drewN _ _ 1))
  have HC := Lib.hid (show Chg base w (w.alloc (.cells #[.slice Ab nb Cb, .int .i64 cb, .slice An nn Cn] 34)).drew from Chg.below hbk (by omega))
  obtain ⟨T, hT⟩ : ∃ T, w.heap.size = T := ⟨_, rfl⟩
  have HQT := Lib.hid (show Q < T from hT ▸ hQl)
  clear hbk a0 a1 a2 b0 b1 b2 hfz hQl HH
  go_upto_region 2 with fail
  rw [hT] at HT ⊢
  clear hT
  generalize hW : World.drew _ = W1 at HX HT HC ⊢
  clear hW
  obtain ⟨iTO, hi0, hz0, hz1, hz2⟩ := info_parts info_op
  have HTO := Lib.hid (And.intro hi0 (And.intro hz0 (And.intro hz1 hz2)))
  clear hi0 hz0 hz1 hz2
  have hat := HX.out.blk.at ht.la
  have a0 := hat.2.2.1
  rw [HE.out.1, HE.out.2.2.2.1] at a0
  have hQl := hat.2.1
  have t0 := HT.out.cell 0
  have HOa := Lib.hid (show W1.drew.ownsRow base 27 5 (.slice Aa na Ca) na ((g.blks.getD a Gr.blk0).ops.flatMap opCells) from by
    have h := HX.out.ops a ht.la
    rw [HE.out.1, HE.out.2.2.2.1] at h
    exact own_below h (below_drewN _ _ 1))
  have HOb := Lib.hid (show RowIn 5 W1.drew (.slice Ab nb Cb) nb ((g.blks.getD b Gr.blk0).ops.flatMap opCells) from by
    have h := HX.out.ops b ht.lb
    rw [HE.out.2.1, HE.out.2.2.2.2.1] at h
    exact RowIn.own (own_below h (below_drewN _ _ 1)))
  have HBs := Lib.hid (show base ≤ W1.drew.heap.size from Nat.le_trans hat.1 (Nat.le_of_lt hat.2.1))
  have HL6 := Lib.hid (show na + nb ≤ maxLen ∧ (na + nb) * 40 ≤ 140737488355328 from by
    have h1 := hops.1
    have h2 := hops.2
    unfold maxLen
    omega)
  have HXd := Lib.hid (show Gm base g tos vi va (.slice (some ⟨Q, 0, none⟩) n c) vp vh vt us ps ts W1.drew from HX.out.below (below_drewN _ _ 1))
  have HCd := Lib.hid (show Chg base w W1.drew from HC.out.trans (Chg.below (below_drewN _ _ 1) HBs.out))
  clear hat hops
  go_region_law (refine step_append_row rfl (.tmp 20) (.tmp 22) 25 rfl base 27 iTO _ 5 40 Try.underlying25 HTO.out.1 HTO.out.2.1 HTO.out.2.2.1 HTO.out.2.2.2 rfl (by decide) (.slice Aa na Ca) na _ (by simp [Act.eval]) HOa.out (.slice Ab nb Cb) nb _ (by simp [Act.eval]) HOb.out one_opJ HL6.out.1 HL6.out.2 HBs.out ?_; intro v1 w1 hown hg hv; have hk1 := (((HX.out.blk.below (below_drewN _ _ 1)).grown HOa.out (by decide) hg).at ht.la); have r := hk1.2.2.1; have y := hk1.2.2.2.2.2 (a * 3); obtain ⟨A1, C1, rfl⟩ := own_eta hown)
  all_goals
    have HJ := Lib.hid (show Gj base g tos vi va (.slice (some ⟨Q, 0, none⟩) n c) vp vh vt us us ps ts a b (.slice A1 (na + nb) C1) w1 from Gj.start HXd.out ht.la (by rw [HE.out.1, HE.out.2.2.2.1]; exact hg) (by
      have e : (Me.jn g.blks a b).ops.length = na + nb := by show ((g.blks.getD a Gr.blk0).ops ++ (g.blks.getD b Gr.blk0).ops).length = _; rw [List.length_append, HE.out.2.2.2.1, HE.out.2.2.2.2.1]
      rw [e]
      show w1.ownsRow base 27 5 (.slice A1 (na + nb) C1) (na + nb) (((g.blks.getD a Gr.blk0).ops ++ (g.blks.getD b Gr.blk0).ops).flatMap opCells)
      rw [List.flatMap_append]
      exact hown) (by rw [HE.out.1, HE.out.2.2.2.1]; exact hv))
    have HC1 := Lib.hid (HCd.out.trans (Chg.grown HOa.out (Nat.le_refl _) HBs.out (by decide) hg))
    have HTw := Lib.hid (bk_grown_t (HT.out.below (below_drewN _ _ 1)) HOa.out (by decide) hg)
    have HUl := Lib.hid HX.out.ul
    have HCn := Lib.hid HX.out.cnd
    have HJ2 := Lib.hid (HJ.out.put (k := a * 3) (x := .slice A1 (na + nb) C1) (us2 := us.set a (.slice A1 (na + nb) C1, (us.getD a bkz).2)) (by rw [List.length_set]) (flat_set0 us a _ (by rw [HUl.out]; exact ht.la)))
    have HT2 := Lib.hid (HTw.out.far (p := ⟨Q, a * 3, none⟩) (by show T ≠ Q; have := HQT.out; omega) (.slice A1 (na + nb) C1))
    have HC2 := Lib.hid (show Chg base w (World.setCell w1 ⟨Q, a * 3, none⟩ (.slice A1 (na + nb) C1)) from by
      obtain ⟨h1, cs, h2⟩ := HJ.out.blk.bk
      exact HC1.out.trans (Chg.set h2 h1 (by decide)))
    clear r y hown hg hv HJ HTw HC1 hk1 HXd HCd HX HT HC a0 t0 hQl HOa HOb
    generalize hW : World.setCell w1 ⟨Q, a * 3, none⟩ (.slice A1 (na + nb) C1) = W2 at HJ2 HT2 HC2 ⊢
    clear hW w1
    have hat := HJ2.out.blk.at ht.la
    have q1 := hat.2.2.2.1
    have q2 := hat.2.2.2.2.1
    have f1 := hat.2.2.2.2.2 (a * 3 + 1)
    have f2 := hat.2.2.2.2.2 (a * 3 + 2)
    have hQl := hat.2.1
    have hTl := HT2.out.lt
    have t1 := HT2.out.cell 1
    have t2 := HT2.out.cell 2
    clear hat
    go_upto_region 3 with fail
    go_region
    have HJ4 := Lib.hid (show Gj base g tos vi va (.slice (some ⟨Q, 0, none⟩) n c) vp vh vt us (us.set a (.slice A1 (na + nb) C1, (us.getD b bkz).2)) ps ts a b (.slice A1 (na + nb) C1) ((W2.setCell ⟨Q, a * 3 + 1, none⟩ (.int .i64 cb)).setCell ⟨Q, a * 3 + 2, none⟩ (.slice An nn Cn)).drew from by
      have hl : a < us.length := by rw [HUl.out]; exact ht.la
      have h1 := HJ2.out.put (k := a * 3 + 1) (x := .int .i64 cb) (by rw [List.length_set]) (flat_set1 _ a cb (by rw [List.length_set]; exact hl))
      have h2 := h1.put (k := a * 3 + 2) (x := .slice An nn Cn) (by rw [List.length_set]) (flat_set2 _ a _ (by rw [List.length_set, List.length_set]; exact hl))
      rw [set3 us a _ _ _ hl] at h2
      have e : (us.getD b bkz).2 = (cb, .slice An nn Cn) := by rw [← HE.out.2.2.2.2.2.1, ← HE.out.2.2.1, ← HE.out.2.2.2.2.2.2]
      rw [e]
      exact h2.below (below_drewN _ _ 1))
    have HC4 := Lib.hid (show Chg base w ((W2.setCell ⟨Q, a * 3 + 1, none⟩ (.int .i64 cb)).setCell ⟨Q, a * 3 + 2, none⟩ (.slice An nn Cn)).drew from by
      obtain ⟨h1, cs, h2⟩ := HJ2.out.blk.bk
      exact ((HC2.out.trans (Chg.set h2 h1 (by decide))).trans (Chg.set (h2.set _ _) h1 (by decide))).trans (Chg.below (below_drewN _ _ 1) (by rw [World.size_setCell, World.size_setCell]; omega)))
    clear q1 q2 f1 f2 hTl t1 t2 hQl HJ2 HT2 HC2
    go_upto_region 4 with fail
    generalize hW : World.drew _ = W4 at HJ4 HC4 ⊢
    clear hW
    have hbc : (b : Int) ≤ (c : Int) := by omega
    have hbn : (b : Int) + 1 ≤ (n : Int) := by omega
    have hnc' : (n : Int) ≤ (c : Int) := by omega
    have hb10 : (0 : Int) ≤ (b : Int) + 1 := by omega
    have hwb : IntKind.i64.wrap ((b : Int) + 1) = ((b + 1 : Nat) : Int) := by rw [IntWalk.i64_in _ (by omega)]; omega
    have HHo := Lib.hid (show ∀ x ∈ us.set a (.slice A1 (na + nb) C1, (us.getD b bkz).2), x.1.oneCell' = true ∧ x.2.2.oneCell' = true from HOne.out A1 (na + nb) C1)
    have HEr := Lib.hid (List.eraseIdx_eq_take_drop_succ (us.set a (.slice A1 (na + nb) C1, (us.getD b bkz).2)) b)
    by_cases hb1 : b + 1 = n
    · subst hb1
      have HFin := Lib.hid (show Gm base { g with blks := Me.jb g.blks a b } tos vi va (.slice (some ⟨Q, 0, none⟩) b b) vp vh vt ((us.set a (.slice A1 (na + nb) C1, (us.getD b bkz).2)).eraseIdx b) ps ts W4.drew from by
        have h := HJ4.out.below (below_drewN _ _ 1)
        refine Gj.fin (vb2 := .slice (some ⟨Q, 0, none⟩) b b) h ht rfl HCn.out HUl.out ?_
        rw [HEr.out, List.drop_of_length_le (by rw [List.length_set, HUl.out, HN.out]; exact Nat.le_refl _), List.append_nil, HN.out, Nat.add_sub_cancel]
        exact h.blk.short (by rw [HN.out]; omega))
      have HCf := Lib.hid (show Chg base w W4.drew from HC4.out.trans (Chg.below (below_drewN _ _ 1) (HBw.out _ HC4.out)))
      go_region_law ((refine step_run rfl (.tmp 39) (.tmp 43) 35 rfl (v := .slice (some ⟨Q, 0, none⟩) b b) (v' := .slice (some ⟨Q, 0, none⟩) b b) (w' := W4.drew) (vx := .slice (if c = b + 1 then some ⟨Q, 0, none⟩ else some ⟨Q, (b + 1) * 3, none⟩) 0 (c - (b + 1))) (by simp [Act.eval, Act.put]) (by simp [Act.eval, Act.put]) (fun ty => run_append_0 W4.drew 35 ty 34 iTB Try.underlying35 HTB.out.1 (some ⟨Q, 0, none⟩) (if c = b + 1 then some ⟨Q, 0, none⟩ else some ⟨Q, (b + 1) * 3, none⟩) b b (c - (b + 1)) (Nat.le_refl _)) ?_))
      go_wp2
      all_goals
        go_ret
        exact ⟨_, _, rfl, HFin.out, HCf.out⟩
    · have hcb : ¬ c = b + 1 := by omega
      have hm0 : (n : Int) - ((b : Int) + 1) = ((n - (b + 1) : Nat) : Int) := by omega
      have HOl := Lib.hid (HJ4.out.below (below_drewN W4.heap.size W4 1))
      have HUs := Lib.hid (show (us.set a (.slice A1 (na + nb) C1, (us.getD b bkz).2)).length = n from by rw [List.length_set, HUl.out, HN.out])
      have HLo := Lib.hid (show (((us.set a (.slice A1 (na + nb) C1, (us.getD b bkz).2)).take b).flatMap bkC).length = b * 3 from by rw [flat_length bkC 3 (fun _ => rfl), List.length_take, HUs.out]; omega)
      have HLn := Lib.hid (show (((us.set a (.slice A1 (na + nb) C1, (us.getD b bkz).2)).drop (b + 1)).flatMap bkC).length = (n - (b + 1)) * 3 from by rw [flat_length bkC 3 (fun _ => rfl), List.length_drop, HUs.out])
      have HCo := Lib.hid (show ∀ bb, some (⟨Q, 0, none⟩ : Addr) = some bb → ∀ (j : Nat) (u : Value), (((us.set a (.slice A1 (na + nb) C1, (us.getD b bkz).2)).take b).flatMap bkC)[j]? = some u → W4.drew.cell? (bb.add j) = some u from fun bb e j u hj => by
        injection e with e
        subst e
        rw [Addr.add_lit, Nat.zero_add]
        exact ((HOl.out.blk.cut (k := b) (by rw [HN.out]; omega)).1 j u hj))
      have HCn2 := Lib.hid (show ∀ (j : Nat) (u : Value), (((us.set a (.slice A1 (na + nb) C1, (us.getD b bkz).2)).drop (b + 1)).flatMap bkC)[j]? = some u → W4.drew.cell? ((⟨Q, (b + 1) * 3, none⟩ : Addr).add j) = some u from fun j u hj => by
        rw [Addr.add_lit]
        exact ((HOl.out.blk.cut (k := b + 1) (by rw [HN.out]; omega)).2 j u hj))
      have HOn := Lib.hid (show ∀ u ∈ ((us.set a (.slice A1 (na + nb) C1, (us.getD b bkz).2)).drop (b + 1)).flatMap bkC, u.oneCell' = true from one_bkJ fun x hx => HHo.out x (List.mem_of_mem_drop hx))
      have HLm := Lib.hid (show b < b + (n - (b + 1)) ∧ b + (n - (b + 1)) ≤ maxLen ∧ (b + (n - (b + 1))) * 56 ≤ 140737488355328 from ⟨by omega, by unfold maxLen; omega, by omega⟩)
      go_region_law (refine step_append_grows rfl (.tmp 39) (.tmp 43) 35 rfl 34 iTB _ 3 56 Try.underlying35 HTB.out.1 HTB.out.2.1 HTB.out.2.2.1 HTB.out.2.2.2 rfl (by decide) (some ⟨Q, 0, none⟩) b b _ (by simp [Act.eval, Act.put]) (fun e => by cases e) HLo.out HCo.out ⟨Q, (b + 1) * 3, none⟩ (n - (b + 1)) (c - (b + 1)) _ (by simp [Act.eval, Act.put, hcb]) HLn.out HCn2.out HOn.out HLm.out.1 HLm.out.2.1 HLm.out.2.2 ?_; intro v2 w2 hown2 hg2)
      have HFin := Lib.hid (show Gm base { g with blks := Me.jb g.blks a b } tos vi va v2 vp vh vt ((us.set a (.slice A1 (na + nb) C1, (us.getD b bkz).2)).eraseIdx b) ps ts w2 from by
        have hb2 : Below W4.drew.heap.size W4.drew w2 := ⟨hg2.os, hg2.tape, hg2.output, hg2.size, fun k hk => hg2.block k hk (by simp)⟩
        have h := HOl.out.below hb2
        refine Gj.fin (vb2 := v2) h ht rfl HCn.out HUl.out ?_
        rw [HEr.out, HN.out]
        rw [← List.flatMap_append, show b + (n - (b + 1)) = n - 1 by omega] at hown2
        exact (Hold.own hown2 (by omega)).mono (HBw.out _ (HC4.out.trans (Chg.below (below_drewN _ _ 1) (HBw.out _ HC4.out)))))
      have HCf := Lib.hid (show Chg base w w2 from by
        have hb2 : Below W4.drew.heap.size W4.drew w2 := ⟨hg2.os, hg2.tape, hg2.output, hg2.size, fun k hk => hg2.block k hk (by simp)⟩
        have h1 : Chg base w W4.drew := HC4.out.trans (Chg.below (below_drewN _ _ 1) (HBw.out _ HC4.out))
        exact h1.trans (Chg.below hb2 (HBw.out _ h1)))
      clear hown2 hg2
      go_wp2
      go_ret
      exact ⟨_, _, rfl, HFin.out, HCf.out⟩
end Go.Proofs.Ythjolbgkancohaa
