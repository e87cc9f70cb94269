/- Layer 11's agree: all functions do what the specification does. No condition. -/
import Derived.Test.YtpinncjnfbebkaaFaLawG
namespace Go.Proofs.Ytpinncjnfbebkaa
open Go.RowKit
set_option linter.unusedVariables false
set_option linter.unusedSimpArgs false
attribute [local go_sem] y_undef
/-- Two results' boxes and their rows, behind a world that stays. -/
def Ag (W : World) (P Q : Nat) (x : Value) (l : Fa.Tms) (m : Int) (y : Value) (l' : Fa.Tms) (m' : Int) (u : World) : Prop :=
  Below W.heap.size W u ∧ (W.heap.size ≤ P ∧ P < Q) ∧ Bk u P 30 #[x, .int .i64 m] ∧ Bk u Q 30 #[y, .int .i64 m'] ∧ (u.ownsRow W.heap.size 36 2 x l.length (l.flatMap prCells) ∧ x.ownBlock ≠ some P ∧ x.ownBlock ≠ some Q) ∧ (u.ownsRow W.heap.size 36 2 y l'.length (l'.flatMap prCells) ∧ y.ownBlock ≠ some P ∧ y.ownBlock ≠ some Q)
section
variable {W u u1 : World} {P Q : Nat} {x y x2 : Value} {l l' l2 : Fa.Tms} {m m' m2 : Int}
theorem Ag.below (h : Ag W P Q x l m y l' m' u) (hb : Below u.heap.size u u1) : Ag W P Q x l m y l' m' u1 :=
  ⟨h.1.trans (hb.mono h.1.size), h.2.1, h.2.2.1.below hb, h.2.2.2.1.below hb, ⟨own_below h.2.2.2.2.1.1 hb, h.2.2.2.2.1.2⟩, ⟨own_below h.2.2.2.2.2.1 hb, h.2.2.2.2.2.2⟩⟩
theorem Ag.prs1 (h : Ag W P Q x l m y l' m' u) : PrsIn u x l := RowIn.own h.2.2.2.2.1.1
theorem Ag.prs2 (h : Ag W P Q x l m y l' m' u) : PrsIn u y l' := RowIn.own h.2.2.2.2.2.1
theorem kept_at {base B : Nat} {e : TypeId} {size n : Nat} {v : Value} {xs : List Value} (h : u.ownsRow base e size v n xs) (hv : v.ownBlock ≠ some B) (a b : Value) : ((u.setCell ⟨B, 0, none⟩ a).setCell ⟨B, 1, none⟩ b).ownsRow base e size v n xs :=
  World.ownsRow.kept h (grown_trans (grown_set u B 0 0 a) (grown_set (u.setCell ⟨B, 0, none⟩ a) B 0 1 b)) (.inr hv)
theorem Ag.put1 (h : Ag W P Q x l m y l' m' u) (hb : Below u.heap.size u u1) (ho : u1.ownsRow u.heap.size 36 2 x2 l2.length (l2.flatMap prCells)) : Ag W P Q x2 l2 m2 y l' m' ((u1.setCell ⟨P, 0, none⟩ x2).setCell ⟨P, 1, none⟩ (.int .i64 m2)) := by
  have hu := h.below hb
  have hP := h.2.2.1.lt
  have hQ := h.2.2.2.1.lt
  have hx2 : ∀ B, B < u.heap.size → x2.ownBlock ≠ some B := fun B hB e => by have := (ho.lt B e).1; omega
  have hW := h.1.size
  refine ⟨(hu.1.setCell h.2.1.1 _).setCell h.2.1.1 _, h.2.1, (hu.2.2.1.set 0 _).set 1 _, (hu.2.2.2.1.far (by show Q ≠ P; have := h.2.1.2; omega) _).far (by show Q ≠ P; have := h.2.1.2; omega) _, ⟨kept_at (World.ownsRow.mono ho hW) (hx2 P hP) _ _, hx2 P hP, hx2 Q hQ⟩, ⟨kept_at hu.2.2.2.2.2.1 hu.2.2.2.2.2.2.1 _ _, hu.2.2.2.2.2.2⟩⟩
theorem Ag.put2 (h : Ag W P Q x l m y l' m' u) (hb : Below u.heap.size u u1) (ho : u1.ownsRow u.heap.size 36 2 x2 l2.length (l2.flatMap prCells)) : Ag W P Q x l m x2 l2 m2 ((u1.setCell ⟨Q, 0, none⟩ x2).setCell ⟨Q, 1, none⟩ (.int .i64 m2)) := by
  have hu := h.below hb
  have hP := h.2.2.1.lt
  have hQ := h.2.2.2.1.lt
  have hx2 : ∀ B, B < u.heap.size → x2.ownBlock ≠ some B := fun B hB e => by have := (ho.lt B e).1; omega
  have hW := h.1.size
  have hWQ : W.heap.size ≤ Q := by have := h.2.1; omega
  refine ⟨(hu.1.setCell hWQ _).setCell hWQ _, h.2.1, (hu.2.2.1.far (by show P ≠ Q; have := h.2.1.2; omega) _).far (by show P ≠ Q; have := h.2.1.2; omega) _, (hu.2.2.2.1.set 0 _).set 1 _, ⟨kept_at hu.2.2.2.2.1.1 hu.2.2.2.2.1.2.2 _ _, hu.2.2.2.2.1.2⟩, ⟨kept_at (World.ownsRow.mono ho hW) (hx2 Q hQ) _ _, hx2 P hP, hx2 Q hQ⟩⟩
end
theorem Fa.ofR_len {l : Fa.Tms} {m : Int} : (Fa.ofR l m).1.length ≤ 256 := by
  unfold Fa.ofR
  split
  · simp
  · split
    · simp
    · split
      · simp
      · split
        · simp
        · split
          · simp
          · exact Fa.norm_len l 256
theorem Fa.mapR_len {f : Fa.Tms} {m : Int} {ts : List (List Int)} : (Fa.mapR f m ts).1.length ≤ 256 := by
  unfold Fa.mapR
  split
  · simp
  · split
    · simp
    · split
      · simp
      · exact Fa.ofR_len
theorem Fa.addR_len {f g : Fa.Tms} {m mg a b : Int} : (Fa.addR f m g mg a b).1.length ≤ 256 := by
  unfold Fa.addR
  split
  · simp
  · split
    · simp
    · split
      · simp
      · exact Fa.ofR_len
theorem Fa.map_rows {ts : List (List Int)} (h : Fa.isMapB ts = true) : ∀ q ∈ ts, q.length ≤ 256 := fun q hq => by
  obtain ⟨i, hi, rfl⟩ := List.getElem_of_mem hq
  have := Fa.map_row h hi
  rwa [show ts.getD i [] = ts[i] by simp [List.getD, List.getElem?_eq_getElem hi]] at this
theorem Fa.pts_len {ps ts : List (List Int)} : (Fa.pointsR ps ts).1.length ≤ 256 ∧ ∀ q ∈ (Fa.pointsR ps ts).1, q.length ≤ maxLen := by
  unfold Fa.pointsR
  split
  · exact ⟨by simp, fun q hq => by simp at hq⟩
  · rename_i h0
    split
    · exact ⟨by simp, fun q hq => by simp at hq⟩
    · split
      · exact ⟨by simp, fun q hq => by simp at hq⟩
      · rename_i h2
        have hp : Fa.isMapB ps = true := by cases h : Fa.isMapB ps with | false => exact absurd (.inl h) h0 | true => rfl
        refine ⟨by simpa using Fa.map_len hp, fun q hq => ?_⟩
        obtain ⟨p, hp1, rfl⟩ := List.mem_map.1 hq
        have : ¬ 256 < (Fa.thr ts p).length := fun h => h2 ⟨p, hp1, h⟩
        unfold maxLen
        omega
set_option maxRecDepth 100000 in
set_option maxHeartbeats 32000000 in
theorem agree_any (l1 : Fa.Tms) (m1 : Int) (v1 : Value) (l2 : Fa.Tms) (m2 : Int) (v2 : Value) (cs : List Int) (vc : Value) (ts : List (List Int)) (vt : Value) (ps : List (List Int)) (vp : Value) (a b : Int) (w : World) (h1 : PrsIn w v1 l1) (hm1 : l1.length ≤ maxLen) (h2 : PrsIn w v2 l2) (hm2 : l2.length ≤ maxLen)
    (hc : NumsIn w vc cs) (hmc : cs.length ≤ maxLen) (ht : LstsS w vt ts) (hmt : ts.length ≤ maxLen) (hmt2 : ∀ q ∈ ts, q.length ≤ maxLen) (hp : LstsS w vp ps) (hmp : ps.length ≤ maxLen) (hmp2 : ∀ q ∈ ps, q.length ≤ maxLen) :
    Calls Try.prog 15 #[.agg #[v1, .int .i64 m1], .agg #[v2, .int .i64 m2], vc, vt, vp, .int .i64 a, .int .i64 b] w fun e w' => e = .returned (.bool true) ∧ Below w.heap.size w w' := by
  obtain ⟨A1, c1, rfl, _⟩ := h1.opened
  obtain ⟨A2, c2, rfl, _⟩ := h2.opened
  have hal : Below w.heap.size w ((w.alloc (.cells #[.slice A1 l1.length c1, .int .i64 m1] 30)).alloc (.cells #[.slice A2 l2.length c2, .int .i64 m2] 30)) := ((Below.refl _ _).alloc (Nat.le_refl _) _).alloc (by simp) _
  have hx1 : Bk ((w.alloc (.cells #[.slice A1 l1.length c1, .int .i64 m1] 30)).alloc (.cells #[.slice A2 l2.length c2, .int .i64 m2] 30)) w.heap.size 30 #[.slice A1 l1.length c1, .int .i64 m1] := bk_alloc (Bk.new _ _ _) _
  have hx2 : Bk ((w.alloc (.cells #[.slice A1 l1.length c1, .int .i64 m1] 30)).alloc (.cells #[.slice A2 l2.length c2, .int .i64 m2] 30)) (w.heap.size + 1) 30 #[.slice A2 l2.length c2, .int .i64 m2] := bk_new' (by simp)
  have H0 := Lib.hid (And.intro hal (And.intro hx1 hx2))
  have HP := Lib.hid (And.intro (h1.below hal) (And.intro (h2.below hal) (And.intro (hc.below hal) (And.intro (ht.below hal) (hp.below hal)))))
  have HM := Lib.hid (And.intro hm1 (And.intro hm2 (And.intro hmc (And.intro hmt (And.intro hmt2 (And.intro hmp hmp2))))))
  obtain ⟨⟨L1, M1, E1⟩, hr1⟩ : ∃ r, Fa.ofR l1 m2 = r := ⟨_, rfl⟩
  obtain ⟨⟨sp, sq⟩, hs1⟩ : ∃ r, Fa.sumR l1 m1 cs = r := ⟨_, rfl⟩
  obtain ⟨⟨L2, M2, E2⟩, hr2⟩ : ∃ r, Fa.mapR l1 m1 ts = r := ⟨_, rfl⟩
  obtain ⟨⟨L3, M3, E3⟩, hr3⟩ : ∃ r, Fa.addR l1 m1 l2 m2 a b = r := ⟨_, rfl⟩
  obtain ⟨⟨PL, PE⟩, hr4⟩ : ∃ r, Fa.pointsR ps ts = r := ⟨_, rfl⟩
  obtain ⟨ck, hck⟩ : ∃ r, Fa.chk l1 m1 = r := ⟨_, rfl⟩
  obtain ⟨th, hth⟩ : ∃ r, Fa.holds l1 m1 cs = r := ⟨_, rfl⟩
  have hL1 : L1.length ≤ maxLen := by have := @Fa.ofR_len l1 m2; rw [hr1] at this; unfold maxLen; simp at this; omega
  have hL2 : L2.length ≤ maxLen := by have := @Fa.mapR_len l1 m1 ts; rw [hr2] at this; unfold maxLen; simp at this; omega
  have hL3 : L3.length ≤ maxLen := by have := @Fa.addR_len l1 l2 m1 m2 a b; rw [hr3] at this; unfold maxLen; simp at this; omega
  have hL4 : PL.length ≤ maxLen ∧ ∀ q ∈ PL, q.length ≤ maxLen := by have := @Fa.pts_len ps ts; rw [hr4] at this; exact ⟨by unfold maxLen; have := this.1; simp at this; omega, this.2⟩
  have HE := Lib.hid (And.intro hr1 (And.intro hs1 (And.intro hr2 (And.intro hr3 (And.intro hr4 (And.intro hck hth))))))
  have HL := Lib.hid (And.intro hL1 (And.intro hL2 (And.intro hL3 hL4)))
  clear h1 hm1 h2 hm2 hc hmc ht hmt hmt2 hp hmp hmp2 hal hx1 hx2 hr1 hs1 hr2 hr3 hr4 hck hth hL1 hL2 hL3 hL4
  go_enter Try.func15, Try.ntmps15
  go_wp2_with fail
  generalize ((w.alloc (.cells #[.slice A1 l1.length c1, .int .i64 m1] 30)).alloc (.cells #[.slice A2 l2.length c2, .int .i64 m2] 30)) = W at *
  refine (fof_any l1 m2 _ _ W HP.out.1 HM.out.1 HE.out.1).mono ?_
  rintro e w1 ⟨x3, he, ho3, hb1⟩
  simp only at he ho3
  subst he
  obtain ⟨A3, c3, rfl, _⟩ := RowIn.own ho3
  have hal : Below w1.heap.size w1 (w1.alloc (.cells #[.slice A3 L1.length c3, .int .i64 M1] 30)) := (Below.refl _ _).alloc (Nat.le_refl _) _
  have H1 := Lib.hid (And.intro (hb1.trans (hal.mono hb1.size)) (And.intro (show Bk (w1.alloc (.cells #[.slice A3 L1.length c3, .int .i64 M1] 30)) w1.heap.size 30 #[.slice A3 L1.length c3, .int .i64 M1] from Bk.new _ _ _) (And.intro (own_below ho3 hal) (And.intro hb1.size (fun k hk => (ho3.lt k hk).2)))))
  have HF := Lib.hid (show ∀ u, Below W.heap.size W u → (u.cell? ⟨w.heap.size, 0, none⟩ = some (.slice A1 l1.length c1) ∧ u.cell? ⟨w.heap.size, 1, none⟩ = some (.int .i64 m1)) ∧ (u.cell? ⟨w.heap.size + 1, 0, none⟩ = some (.slice A2 l2.length c2) ∧ u.cell? ⟨w.heap.size + 1, 1, none⟩ = some (.int .i64 m2)) from fun u hb =>
    ⟨⟨(H0.out.2.1.below hb).cell 0, (H0.out.2.1.below hb).cell 1⟩, ⟨(H0.out.2.2.below hb).cell 0, (H0.out.2.2.below hb).cell 1⟩⟩)
  clear ho3 hb1 hal
  obtain ⟨⟨k0, k1⟩, k2, k3⟩ := HF.out _ H1.out.1
  go_wp2_with fail
  generalize (w1.alloc (.cells #[.slice A3 L1.length c3, .int .i64 M1] 30)) = U1 at *
  refine (rof_any l1 m2 _ _ U1 (HP.out.1.below H1.out.1) HM.out.1 HE.out.1).mono ?_
  rintro e w2 ⟨x4, he, ho4, hb2⟩
  simp only at he ho4
  subst he
  obtain ⟨A4, c4, rfl, _⟩ := RowIn.own ho4
  have hal : Below w2.heap.size w2 (w2.alloc (.cells #[.slice A4 L1.length c4, .int .i64 M1] 30)) := (Below.refl _ _).alloc (Nat.le_refl _) _
  have hst := hb2.trans (hal.mono hb2.size)
  have HAg := Lib.hid (show Ag W w1.heap.size w2.heap.size (.slice A3 L1.length c3) L1 M1 (.slice A4 L1.length c4) L1 M1 (w2.alloc (.cells #[.slice A4 L1.length c4, .int .i64 M1] 30)) from by
    have q1 := H1.out.2.1.lt
    have q2 := hb2.size
    have q3 := H1.out.1.size
    refine ⟨H1.out.1.trans (hst.mono H1.out.1.size), ⟨H1.out.2.2.2.1, by omega⟩, H1.out.2.1.below hst, Bk.new _ _ _, ⟨own_below H1.out.2.2.1 hst, fun e => ?_, fun e => ?_⟩, ⟨World.ownsRow.mono (own_below ho4 hal) q3, fun e => ?_, fun e => ?_⟩⟩
    · have := H1.out.2.2.2.2 _ e; omega
    · have := H1.out.2.2.2.2 _ e; omega
    · have := (ho4.lt _ e).1; omega
    · have := (ho4.lt _ e).2; omega)
  clear ho4 hb2 hal hst H1 k0 k1 k2 k3
  generalize w1.heap.size = P at *

  go_upto_region 3 with fail
  have HA2 := Lib.hid (show Ag W P w2.heap.size (.slice A3 L1.length c3) L1 M1 (.slice A4 L1.length c4) L1 M1 (w2.alloc (.cells #[.slice A4 L1.length c4, .int .i64 M1] 30)) from HAg.out)
  clear HAg
  generalize (w2.alloc (.cells #[.slice A4 L1.length c4, .int .i64 M1] 30)) = U2 at *
  generalize w2.heap.size = Q at *
  have HFA := Lib.hid (show ∀ u', Ag W P Q (.slice A3 L1.length c3) L1 M1 (.slice A4 L1.length c4) L1 M1 u' → (World.cell? u' ⟨w.heap.size, 0, none⟩ = some (.slice A1 l1.length c1) ∧ World.cell? u' ⟨w.heap.size, 1, none⟩ = some (.int .i64 m1)) ∧ (World.cell? u' ⟨P, 0, none⟩ = some (.slice A3 L1.length c3) ∧ World.cell? u' ⟨P, 1, none⟩ = some (.int .i64 M1)) ∧ (World.cell? u' ⟨Q, 0, none⟩ = some (.slice A4 L1.length c4) ∧ World.cell? u' ⟨Q, 1, none⟩ = some (.int .i64 M1)) ∧ Ag W P Q (.slice A3 L1.length c3) L1 M1 (.slice A4 L1.length c4) L1 M1 u' from fun u' hg => ⟨(HF.out u' hg.1).1, ⟨hg.2.2.1.cell 0, hg.2.2.1.cell 1⟩, ⟨hg.2.2.2.1.cell 0, hg.2.2.2.1.cell 1⟩, hg⟩)
  have HK1 := Lib.hid (fun (u' : World) (hg : Ag W P Q (.slice A3 L1.length c3) L1 M1 (.slice A4 L1.length c4) L1 M1 u') => (rsame_any L1 M1 _ _ u' hg.prs1 hg.prs2 HL.out.1).mono (fun e w' h => And.intro h.1 (HFA.out w' (Ag.below hg h.2))))
  have HK2 := Lib.hid (fun (u' : World) (hg : Ag W P Q (.slice A3 L1.length c3) L1 M1 (.slice A4 L1.length c4) L1 M1 u') => (fcheck_any l1 m1 _ ck u' (HP.out.1.below hg.1) HM.out.1 HE.out.2.2.2.2.2.1).mono (fun e w' h => And.intro h.1 (HFA.out w' (Ag.below hg h.2))))
  have HK3 := Lib.hid (fun (u' : World) (hg : Ag W P Q (.slice A3 L1.length c3) L1 M1 (.slice A4 L1.length c4) L1 M1 u') => (rcheck_any l1 m1 _ ck u' (HP.out.1.below hg.1) HM.out.1 HE.out.2.2.2.2.2.1).mono (fun e w' h => And.intro h.1 (HFA.out w' (Ag.below hg h.2))))
  have HK4 := Lib.hid (fun (u' : World) (hg : Ag W P Q (.slice A3 L1.length c3) L1 M1 (.slice A4 L1.length c4) L1 M1 u') => (fholds_any l1 m1 _ cs vc th u' (HP.out.1.below hg.1) HM.out.1 (HP.out.2.2.1.below hg.1) HM.out.2.2.1 HE.out.2.2.2.2.2.2).mono (fun e w' h => And.intro h.1 (HFA.out w' (Ag.below hg h.2))))
  have HK5 := Lib.hid (fun (u' : World) (hg : Ag W P Q (.slice A3 L1.length c3) L1 M1 (.slice A4 L1.length c4) L1 M1 u') => (rholds_any l1 m1 _ cs vc th u' (HP.out.1.below hg.1) HM.out.1 (HP.out.2.2.1.below hg.1) HM.out.2.2.1 HE.out.2.2.2.2.2.2).mono (fun e w' h => And.intro h.1 (HFA.out w' (Ag.below hg h.2))))
  have HK6 := Lib.hid (fun (u' : World) (hg : Ag W P Q (.slice A3 L1.length c3) L1 M1 (.slice A4 L1.length c4) L1 M1 u') => (fsum_any l1 m1 _ cs vc sp sq u' (HP.out.1.below hg.1) HM.out.1 (HP.out.2.2.1.below hg.1) HM.out.2.2.1 HE.out.2.1).mono (fun e w' h => And.intro h.1 (HFA.out w' (Ag.below hg h.2))))
  have x := HFA.out U2.drew (HA2.out.below (below_drewN _ _ 1))
  have hA2 := x.2.2.2
  go_region_held3 (fun w' => (World.cell? w' ⟨w.heap.size, 0, none⟩ = some (.slice A1 l1.length c1) ∧ World.cell? w' ⟨w.heap.size, 1, none⟩ = some (.int .i64 m1)) ∧ (World.cell? w' ⟨P, 0, none⟩ = some (.slice A3 L1.length c3) ∧ World.cell? w' ⟨P, 1, none⟩ = some (.int .i64 M1)) ∧ (World.cell? w' ⟨Q, 0, none⟩ = some (.slice A4 L1.length c4) ∧ World.cell? w' ⟨Q, 1, none⟩ = some (.int .i64 M1)) ∧ Ag W P Q (.slice A3 L1.length c3) L1 M1 (.slice A4 L1.length c4) L1 M1 w')
    (first | (with_reducible assumption) | exact x | exact zz)
    (first
      | (go_at_call 22; with_reducible refine Calls.mono (HK1.out _ ?_) ?_; (focus assumption); rintro e wn ⟨rfl, zz⟩; have hB := zz.2.2.2)
      | (go_at_call 20; with_reducible refine Calls.mono (HK2.out _ ?_) ?_; (focus assumption); rintro e wn ⟨rfl, zz⟩; have hB := zz.2.2.2)
      | (go_at_call 26; with_reducible refine Calls.mono (HK3.out _ ?_) ?_; (focus assumption); rintro e wn ⟨rfl, zz⟩; have hB := zz.2.2.2)
      | (go_at_call 19; with_reducible refine Calls.mono (HK4.out _ ?_) ?_; (focus assumption); rintro e wn ⟨rfl, zz⟩; have hB := zz.2.2.2)
      | (go_at_call 27; with_reducible refine Calls.mono (HK5.out _ ?_) ?_; (focus assumption); rintro e wn ⟨rfl, zz⟩; have hB := zz.2.2.2)
      | fail)
  go_wp2_with fail
  clear x hA2
  refine Calls.mono (HK6.out _ ?_) ?_
  focus assumption
  rintro e w5 ⟨rfl, zz5⟩
  have HA5 := Lib.hid zz5.2.2.2
  clear zz5
  obtain ⟨⟨k0, k1⟩, k2, k3⟩ := HF.out w5 HA5.out.1
  have k0 : World.cell? w5 ⟨w.heap.size, 0, none⟩ = some (.slice A1 l1.length c1) := k0
  have k1 : World.cell? w5 ⟨w.heap.size, 1, none⟩ = some (.int .i64 m1) := k1
  have k2 : World.cell? w5 ⟨w.heap.size + 1, 0, none⟩ = some (.slice A2 l2.length c2) := k2
  have k3 : World.cell? w5 ⟨w.heap.size + 1, 1, none⟩ = some (.int .i64 m2) := k3
  go_wp2_with fail
  refine (rsum_any l1 m1 _ cs vc sp sq w5 (HP.out.1.below HA5.out.1) HM.out.1 (HP.out.2.2.1.below HA5.out.1) HM.out.2.2.1 HE.out.2.1).mono ?_
  rintro e w6 ⟨rfl, hb6⟩
  have HA6 := Lib.hid (HA5.out.below hb6)
  clear hb6
  clear k0 k1 k2 k3
  obtain ⟨⟨k0, k1⟩, k2, k3⟩ := HF.out w6 HA6.out.1
  have k0 : World.cell? w6 ⟨w.heap.size, 0, none⟩ = some (.slice A1 l1.length c1) := k0
  have k1 : World.cell? w6 ⟨w.heap.size, 1, none⟩ = some (.int .i64 m1) := k1
  have k2 : World.cell? w6 ⟨w.heap.size + 1, 0, none⟩ = some (.slice A2 l2.length c2) := k2
  have k3 : World.cell? w6 ⟨w.heap.size + 1, 1, none⟩ = some (.int .i64 m2) := k3
  go_wp2_with fail
  refine (fmap_any l1 m1 _ ts vt _ w6 (HP.out.1.below HA6.out.1) HM.out.1 (HP.out.2.2.2.1.lsts.below HA6.out.1) HM.out.2.2.2.1 HM.out.2.2.2.2.1 HE.out.2.2.1).mono ?_
  rintro e w7 ⟨xw7, he, ho, hb⟩
  simp only at he ho
  subst he
  obtain ⟨A5, c5, rfl, _⟩ := RowIn.own ho
  have hbel := HA6.out.below hb
  have q0 : World.cell? w7 ⟨P, 0, none⟩ = some (.slice A3 L1.length c3) := hbel.2.2.1.cell 0
  have q1 : World.cell? w7 ⟨P, 1, none⟩ = some (.int .i64 M1) := hbel.2.2.1.cell 1
  have q2 : World.cell? w7 ⟨Q, 0, none⟩ = some (.slice A4 L1.length c4) := hbel.2.2.2.1.cell 0
  have q3 : World.cell? w7 ⟨Q, 1, none⟩ = some (.int .i64 M1) := hbel.2.2.2.1.cell 1
  have q4 : World.frozen? w7 ⟨P, 0, none⟩ = false := hbel.2.2.1.frozen 0
  have q5 : World.frozen? w7 ⟨P, 1, none⟩ = false := hbel.2.2.1.frozen 1
  have q6 : World.frozen? w7 ⟨Q, 0, none⟩ = false := hbel.2.2.2.1.frozen 0
  have q7 : World.frozen? w7 ⟨Q, 1, none⟩ = false := hbel.2.2.2.1.frozen 1
  have HA70 := HA6.out.put1 (m2 := M2) hb ho
  have HA7 := Lib.hid HA70
  clear hbel HA70 ho hb k0 k1 k2 k3
  obtain ⟨⟨k0, k1⟩, k2, k3⟩ := HF.out ((World.setCell w7 ⟨P, 0, none⟩ (.slice A5 L2.length c5)).setCell ⟨P, 1, none⟩ (.int .i64 M2)) HA7.out.1
  have k0 : World.cell? ((World.setCell w7 ⟨P, 0, none⟩ (.slice A5 L2.length c5)).setCell ⟨P, 1, none⟩ (.int .i64 M2)) ⟨w.heap.size, 0, none⟩ = some (.slice A1 l1.length c1) := k0
  have k1 : World.cell? ((World.setCell w7 ⟨P, 0, none⟩ (.slice A5 L2.length c5)).setCell ⟨P, 1, none⟩ (.int .i64 M2)) ⟨w.heap.size, 1, none⟩ = some (.int .i64 m1) := k1
  have k2 : World.cell? ((World.setCell w7 ⟨P, 0, none⟩ (.slice A5 L2.length c5)).setCell ⟨P, 1, none⟩ (.int .i64 M2)) ⟨w.heap.size + 1, 0, none⟩ = some (.slice A2 l2.length c2) := k2
  have k3 : World.cell? ((World.setCell w7 ⟨P, 0, none⟩ (.slice A5 L2.length c5)).setCell ⟨P, 1, none⟩ (.int .i64 M2)) ⟨w.heap.size + 1, 1, none⟩ = some (.int .i64 m2) := k3
  go_wp2_with fail
  clear q0 q1 q2 q3 q4 q5 q6 q7
  clear k0 k1 k2 k3
  generalize ((World.setCell w7 ⟨P, 0, none⟩ (.slice A5 L2.length c5)).setCell ⟨P, 1, none⟩ (.int .i64 M2)) = V7 at *
  refine (rmapf_any l1 m1 _ ts vt _ V7 (HP.out.1.below HA7.out.1) HM.out.1 (HP.out.2.2.2.1.lsts.below HA7.out.1) HM.out.2.2.2.1 HM.out.2.2.2.2.1 HE.out.2.2.1).mono ?_
  rintro e w8 ⟨xw8, he, ho, hb⟩
  simp only at he ho
  subst he
  obtain ⟨A6, c6, rfl, _⟩ := RowIn.own ho
  have hbel := HA7.out.below hb
  have q0 : World.cell? w8 ⟨P, 0, none⟩ = some (.slice A5 L2.length c5) := hbel.2.2.1.cell 0
  have q1 : World.cell? w8 ⟨P, 1, none⟩ = some (.int .i64 M2) := hbel.2.2.1.cell 1
  have q2 : World.cell? w8 ⟨Q, 0, none⟩ = some (.slice A4 L1.length c4) := hbel.2.2.2.1.cell 0
  have q3 : World.cell? w8 ⟨Q, 1, none⟩ = some (.int .i64 M1) := hbel.2.2.2.1.cell 1
  have q4 : World.frozen? w8 ⟨P, 0, none⟩ = false := hbel.2.2.1.frozen 0
  have q5 : World.frozen? w8 ⟨P, 1, none⟩ = false := hbel.2.2.1.frozen 1
  have q6 : World.frozen? w8 ⟨Q, 0, none⟩ = false := hbel.2.2.2.1.frozen 0
  have q7 : World.frozen? w8 ⟨Q, 1, none⟩ = false := hbel.2.2.2.1.frozen 1
  have HA80 := HA7.out.put2 (m2 := M2) hb ho
  have HA8 := Lib.hid HA80
  clear hbel HA80 ho hb
  have p0 : World.cell? ((World.setCell w8 ⟨Q, 0, none⟩ (.slice A6 L2.length c6)).setCell ⟨Q, 1, none⟩ (.int .i64 M2)) ⟨P, 0, none⟩ = some (.slice A5 L2.length c5) := HA8.out.2.2.1.cell 0
  have p1 : World.cell? ((World.setCell w8 ⟨Q, 0, none⟩ (.slice A6 L2.length c6)).setCell ⟨Q, 1, none⟩ (.int .i64 M2)) ⟨P, 1, none⟩ = some (.int .i64 M2) := HA8.out.2.2.1.cell 1
  have p2 : World.cell? ((World.setCell w8 ⟨Q, 0, none⟩ (.slice A6 L2.length c6)).setCell ⟨Q, 1, none⟩ (.int .i64 M2)) ⟨Q, 0, none⟩ = some (.slice A6 L2.length c6) := HA8.out.2.2.2.1.cell 0
  have p3 : World.cell? ((World.setCell w8 ⟨Q, 0, none⟩ (.slice A6 L2.length c6)).setCell ⟨Q, 1, none⟩ (.int .i64 M2)) ⟨Q, 1, none⟩ = some (.int .i64 M2) := HA8.out.2.2.2.1.cell 1
  have p4 : World.frozen? ((World.setCell w8 ⟨Q, 0, none⟩ (.slice A6 L2.length c6)).setCell ⟨Q, 1, none⟩ (.int .i64 M2)) ⟨P, 0, none⟩ = false := HA8.out.2.2.1.frozen 0
  have p5 : World.frozen? ((World.setCell w8 ⟨Q, 0, none⟩ (.slice A6 L2.length c6)).setCell ⟨Q, 1, none⟩ (.int .i64 M2)) ⟨P, 1, none⟩ = false := HA8.out.2.2.1.frozen 1
  have p6 : World.frozen? ((World.setCell w8 ⟨Q, 0, none⟩ (.slice A6 L2.length c6)).setCell ⟨Q, 1, none⟩ (.int .i64 M2)) ⟨Q, 0, none⟩ = false := HA8.out.2.2.2.1.frozen 0
  have p7 : World.frozen? ((World.setCell w8 ⟨Q, 0, none⟩ (.slice A6 L2.length c6)).setCell ⟨Q, 1, none⟩ (.int .i64 M2)) ⟨Q, 1, none⟩ = false := HA8.out.2.2.2.1.frozen 1
  go_wp2_with fail
  clear q0 q1 q2 q3 q4 q5 q6 q7
  clear p0 p1 p2 p3 p4 p5 p6 p7
  generalize ((World.setCell w8 ⟨Q, 0, none⟩ (.slice A6 L2.length c6)).setCell ⟨Q, 1, none⟩ (.int .i64 M2)) = V8 at *
  refine (rsame_any L2 M2 _ _ V8 HA8.out.prs1 HA8.out.prs2 HL.out.2.1).mono ?_
  rintro e w9 ⟨rfl, hb⟩
  have HA9 := Lib.hid (HA8.out.below hb)
  clear hb
  obtain ⟨⟨k0, k1⟩, k2, k3⟩ := HF.out w9 HA9.out.1
  have k0 : World.cell? w9 ⟨w.heap.size, 0, none⟩ = some (.slice A1 l1.length c1) := k0
  have k1 : World.cell? w9 ⟨w.heap.size, 1, none⟩ = some (.int .i64 m1) := k1
  have k2 : World.cell? w9 ⟨w.heap.size + 1, 0, none⟩ = some (.slice A2 l2.length c2) := k2
  have k3 : World.cell? w9 ⟨w.heap.size + 1, 1, none⟩ = some (.int .i64 m2) := k3
  go_wp2_with fail
  refine (fadd_any l1 m1 _ l2 m2 _ a b _ w9 (HP.out.1.below HA9.out.1) HM.out.1 (HP.out.2.1.below HA9.out.1) HM.out.2.1 HE.out.2.2.2.1).mono ?_
  rintro e w10 ⟨xw10, he, ho, hb⟩
  simp only at he ho
  subst he
  obtain ⟨A7, c7, rfl, _⟩ := RowIn.own ho
  have hbel := HA9.out.below hb
  have q0 : World.cell? w10 ⟨P, 0, none⟩ = some (.slice A5 L2.length c5) := hbel.2.2.1.cell 0
  have q1 : World.cell? w10 ⟨P, 1, none⟩ = some (.int .i64 M2) := hbel.2.2.1.cell 1
  have q2 : World.cell? w10 ⟨Q, 0, none⟩ = some (.slice A6 L2.length c6) := hbel.2.2.2.1.cell 0
  have q3 : World.cell? w10 ⟨Q, 1, none⟩ = some (.int .i64 M2) := hbel.2.2.2.1.cell 1
  have q4 : World.frozen? w10 ⟨P, 0, none⟩ = false := hbel.2.2.1.frozen 0
  have q5 : World.frozen? w10 ⟨P, 1, none⟩ = false := hbel.2.2.1.frozen 1
  have q6 : World.frozen? w10 ⟨Q, 0, none⟩ = false := hbel.2.2.2.1.frozen 0
  have q7 : World.frozen? w10 ⟨Q, 1, none⟩ = false := hbel.2.2.2.1.frozen 1
  have HA100 := HA9.out.put1 (m2 := M3) hb ho
  have HA10 := Lib.hid HA100
  clear hbel HA100 ho hb k0 k1 k2 k3
  obtain ⟨⟨k0, k1⟩, k2, k3⟩ := HF.out ((World.setCell w10 ⟨P, 0, none⟩ (.slice A7 L3.length c7)).setCell ⟨P, 1, none⟩ (.int .i64 M3)) HA10.out.1
  have k0 : World.cell? ((World.setCell w10 ⟨P, 0, none⟩ (.slice A7 L3.length c7)).setCell ⟨P, 1, none⟩ (.int .i64 M3)) ⟨w.heap.size, 0, none⟩ = some (.slice A1 l1.length c1) := k0
  have k1 : World.cell? ((World.setCell w10 ⟨P, 0, none⟩ (.slice A7 L3.length c7)).setCell ⟨P, 1, none⟩ (.int .i64 M3)) ⟨w.heap.size, 1, none⟩ = some (.int .i64 m1) := k1
  have k2 : World.cell? ((World.setCell w10 ⟨P, 0, none⟩ (.slice A7 L3.length c7)).setCell ⟨P, 1, none⟩ (.int .i64 M3)) ⟨w.heap.size + 1, 0, none⟩ = some (.slice A2 l2.length c2) := k2
  have k3 : World.cell? ((World.setCell w10 ⟨P, 0, none⟩ (.slice A7 L3.length c7)).setCell ⟨P, 1, none⟩ (.int .i64 M3)) ⟨w.heap.size + 1, 1, none⟩ = some (.int .i64 m2) := k3
  go_wp2_with fail
  clear q0 q1 q2 q3 q4 q5 q6 q7
  clear k0 k1 k2 k3
  generalize ((World.setCell w10 ⟨P, 0, none⟩ (.slice A7 L3.length c7)).setCell ⟨P, 1, none⟩ (.int .i64 M3)) = V10 at *
  refine (radd_any l1 m1 _ l2 m2 _ a b _ V10 (HP.out.1.below HA10.out.1) HM.out.1 (HP.out.2.1.below HA10.out.1) HM.out.2.1 HE.out.2.2.2.1).mono ?_
  rintro e w11 ⟨xw11, he, ho, hb⟩
  simp only at he ho
  subst he
  obtain ⟨A8, c8, rfl, _⟩ := RowIn.own ho
  have hbel := HA10.out.below hb
  have q0 : World.cell? w11 ⟨P, 0, none⟩ = some (.slice A7 L3.length c7) := hbel.2.2.1.cell 0
  have q1 : World.cell? w11 ⟨P, 1, none⟩ = some (.int .i64 M3) := hbel.2.2.1.cell 1
  have q2 : World.cell? w11 ⟨Q, 0, none⟩ = some (.slice A6 L2.length c6) := hbel.2.2.2.1.cell 0
  have q3 : World.cell? w11 ⟨Q, 1, none⟩ = some (.int .i64 M2) := hbel.2.2.2.1.cell 1
  have q4 : World.frozen? w11 ⟨P, 0, none⟩ = false := hbel.2.2.1.frozen 0
  have q5 : World.frozen? w11 ⟨P, 1, none⟩ = false := hbel.2.2.1.frozen 1
  have q6 : World.frozen? w11 ⟨Q, 0, none⟩ = false := hbel.2.2.2.1.frozen 0
  have q7 : World.frozen? w11 ⟨Q, 1, none⟩ = false := hbel.2.2.2.1.frozen 1
  have HA110 := HA10.out.put2 (m2 := M3) hb ho
  have HA11 := Lib.hid HA110
  clear hbel HA110 ho hb
  go_wp2_with fail
  clear q0 q1 q2 q3 q4 q5 q6 q7
  generalize ((World.setCell w11 ⟨Q, 0, none⟩ (.slice A8 L3.length c8)).setCell ⟨Q, 1, none⟩ (.int .i64 M3)) = V11 at *
  refine (fpoints_any ps vp ts vt _ V11 (HP.out.2.2.2.2.below HA11.out.1) HM.out.2.2.2.2.2.1 HM.out.2.2.2.2.2.2 (HP.out.2.2.2.1.below HA11.out.1) HM.out.2.2.2.1 HM.out.2.2.2.2.1 HE.out.2.2.2.2.1).mono ?_
  rintro e w12 ⟨y1, he, hl1, hb⟩
  simp only at he hl1
  subst he
  have H12 := Lib.hid (And.intro (HA11.out.below hb) hl1)
  clear hb hl1
  go_wp2_with fail
  refine (rpoints_any ps vp ts vt _ w12 (HP.out.2.2.2.2.below H12.out.1.1) HM.out.2.2.2.2.2.1 HM.out.2.2.2.2.2.2 (HP.out.2.2.2.1.below H12.out.1.1) HM.out.2.2.2.1 HM.out.2.2.2.2.1 HE.out.2.2.2.2.1).mono ?_
  rintro e w13 ⟨y2, he, hl2, hb⟩
  simp only at he hl2
  subst he
  have H13 := Lib.hid (And.intro (H12.out.1.below hb) (And.intro (H12.out.2.below hb) hl2))
  clear hb hl2
  have hA := H13.out.1
  have q0 : World.cell? w13 ⟨P, 0, none⟩ = some (.slice A7 L3.length c7) := hA.2.2.1.cell 0
  have q1 : World.cell? w13 ⟨P, 1, none⟩ = some (.int .i64 M3) := hA.2.2.1.cell 1
  have q2 : World.cell? w13 ⟨Q, 0, none⟩ = some (.slice A8 L3.length c8) := hA.2.2.2.1.cell 0
  have q3 : World.cell? w13 ⟨Q, 1, none⟩ = some (.int .i64 M3) := hA.2.2.2.1.cell 1
  have q4 : World.frozen? w13 ⟨P, 0, none⟩ = false := hA.2.2.1.frozen 0
  have q5 : World.frozen? w13 ⟨P, 1, none⟩ = false := hA.2.2.1.frozen 1
  have q6 : World.frozen? w13 ⟨Q, 0, none⟩ = false := hA.2.2.2.1.frozen 0
  have q7 : World.frozen? w13 ⟨Q, 1, none⟩ = false := hA.2.2.2.1.frozen 1
  clear hA
  go_wp2_with fail
  refine (rsame_any L3 M3 _ _ w13 H13.out.1.prs1 H13.out.1.prs2 HL.out.2.2.1).mono ?_
  rintro e w14 ⟨rfl, hb⟩
  have H14 := Lib.hid (And.intro (H13.out.1.1.trans (hb.mono H13.out.1.1.size)) (And.intro (H13.out.2.1.lsts.below hb) (H13.out.2.2.lsts.below hb)))
  clear hb
  clear q0 q1 q2 q3 q4 q5 q6 q7
  go_wp2_with fail
  refine (samelists_any PL y1 y2 w14 H14.out.2.1 H14.out.2.2 HL.out.2.2.2.1 HL.out.2.2.2.2).mono ?_
  rintro e w15 ⟨rfl, hb⟩
  have HZ := Lib.hid (H0.out.1.trans ((H14.out.1.trans (hb.mono H14.out.1.size)).mono H0.out.1.size))
  clear hb
  go_wp2
  go_ret
  exact ⟨rfl, HZ.out⟩
end Go.Proofs.Ytpinncjnfbebkaa
