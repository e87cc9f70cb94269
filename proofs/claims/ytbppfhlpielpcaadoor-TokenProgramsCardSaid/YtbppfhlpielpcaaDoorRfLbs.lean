/- The specification's labels: what they are, and how many. The specification's labels: the walk. -/
import Derived.Test.YtbppfhlpielpcaaDoorGnCtb
import Derived.Test.YtbppfhlpielpcaaDoorRfWei
import Derived.Test.YtbppfhlpielpcaaDoorGnLpq
namespace Go.Proofs.YtbppfhlpielpcaaDoor
open Go.RowKit
set_option linter.unusedVariables false
/-- The labels of statements at depth d, of a kind, or of both (0). -/
def Sts.labs : Sts → Int → Int → List Int
  | .nil, _, _ => []
  | .cons k _ _ _ _ l t e r, d, kind => (if (k = 3 ∨ k = 4) ∧ (kind = 0 ∨ k = kind) then [l] else []) ++ (if 20 < d + 1 then [] else t.labs (d + 1) kind) ++ (if 20 < d + 1 then [] else e.labs (d + 1) kind) ++ r.labs d kind
def labsD (t : Sts) (d kind : Int) : List Int := if 20 < d then [] else t.labs d kind
/-- How many statements there are. -/
def Sts.cnt : Sts → Nat
  | .nil => 0
  | .cons _ _ _ _ _ _ t e r => 1 + t.cnt + e.cnt + r.cnt
theorem Sts.drop_cnt : ∀ (t : Sts) (i : Nat), (t.drop i).cnt ≤ t.cnt
  | t, 0 => by rw [drop_zero]; exact Nat.le_refl _
  | .nil, _ + 1 => Nat.le_refl _
  | .cons _ _ _ _ _ _ _ _ r, i + 1 => by have := drop_cnt r i; simp only [drop, cnt]; omega
theorem labs_len : ∀ (t : Sts) (d kind : Int), (t.labs d kind).length ≤ t.cnt
  | .nil, _, _ => Nat.le_refl _
  | .cons k _ _ _ _ l t e r, d, kind => by
    have h1 := labs_len t (d + 1) kind
    have h2 := labs_len e (d + 1) kind
    have h3 := labs_len r d kind
    simp only [Sts.labs, Sts.cnt, List.length_append]
    split <;> split <;> simp only [List.length_nil, List.length_cons] <;> omega
theorem labsD_len (t : Sts) (d kind : Int) : (labsD t d kind).length ≤ t.cnt := by
  unfold labsD
  split
  · exact Nat.zero_le _
  · exact labs_len t d kind
theorem labs_in (P : Int → Prop) (hk : ∀ k s i v m l t e r, Sts.Good (.cons k s i v m l t e r) → (k = 3 ∨ k = 4) → P l) : ∀ (t : Sts) (d kind : Int), t.Good → ∀ x ∈ t.labs d kind, P x
  | .nil, _, _, _, x, hx => by cases hx
  | .cons k s i v m l t e r, d, kind, hg, x, hx => by
    have hg0 := hg
    obtain ⟨_, _, _, ⟨ht, _⟩, ⟨he, _⟩, hr⟩ := hg
    simp only [Sts.labs, List.mem_append] at hx
    rcases hx with ((hx | hx) | hx) | hx
    · split at hx
      · rename_i hc
        have : x = l := by simpa using hx
        subst this
        exact hk _ _ _ _ _ _ _ _ _ hg0 hc.1
      · cases hx
    · split at hx
      · cases hx
      · exact labs_in P hk t _ _ ht x hx
    · split at hx
      · cases hx
      · exact labs_in P hk e _ _ he x hx
    · exact labs_in P hk r _ _ hr x hx
theorem labsD_good (t : Sts) (d kind : Int) (h : t.Good) : ∀ x ∈ labsD t d kind, 1 ≤ x ∧ x ≤ 12 := by
  unfold labsD
  split
  · intro x hx; cases hx
  · refine labs_in _ (fun k s i v m l t e r hg hk => ?_) t d kind h
    rcases hg.1 with ⟨rfl, _⟩ | ⟨rfl, _⟩ | ⟨rfl, _, _, _, _, h⟩ | ⟨rfl, _, _, _, _, h, _⟩ | ⟨rfl, _⟩
    · omega
    · omega
    · exact h
    · exact h
    · omega
/-- A bound of the number of statements of a height. -/
def cap : Nat → Nat
  | 0 => 0
  | h + 1 => 1 + 24 * cap h
theorem cnt_cap : ∀ (t : Sts) (h : Nat), t.Good → t.height ≤ h → t.cnt ≤ t.len * cap h
  | .nil, _, _, _ => Nat.zero_le _
  | .cons k s i v m l t e r, h, ⟨_, _, _, ⟨ht, hl⟩, ⟨he, hm⟩, hr⟩, hh => by
    simp only [Sts.height] at hh
    obtain ⟨h, rfl⟩ : ∃ q, h = q + 1 := ⟨h - 1, by omega⟩
    have h1 := cnt_cap t h ht (by omega)
    have h2 := cnt_cap e h he (by omega)
    have h3 := cnt_cap r (h + 1) hr (by omega)
    have h4 : t.len * cap h ≤ 12 * cap h := Nat.mul_le_mul_right _ hl
    have h5 : e.len * cap h ≤ 12 * cap h := Nat.mul_le_mul_right _ hm
    simp only [Sts.cnt, Sts.len, Nat.add_mul, Nat.one_mul]
    have : cap (h + 1) = 1 + 24 * cap h := rfl
    omega
theorem cnt_body {t : Sts} (hg : t.Good) (hh : t.height ≤ 4) (hl : t.len ≤ 12) : t.cnt ≤ 1000000 := by
  have h := cnt_cap t 4 hg hh
  have h2 : t.len * cap 4 ≤ 12 * cap 4 := Nat.mul_le_mul_right _ hl
  have : cap 4 = 14425 := by decide
  omega
end Go.Proofs.YtbppfhlpielpcaaDoor
namespace Go.Proofs.YtbppfhlpielpcaaDoor
open Go.RowKit
set_option linter.unusedVariables false
theorem Tryd.infoInt : (Tryd.prog.info? 3).map (fun i => (i.zero, i.size, i.bytes)) = some (some (.int .i64 0), 1, 8) := by kernel_rfl
abbrev iv (xs : List Int) : List Value := xs.map (Value.int .i64)
theorem iv_one (l : List Int) : ∀ u ∈ iv l, u.oneCell' = true := by
  intro u hu
  obtain ⟨x, _, rfl⟩ := List.mem_map.1 hu
  rfl
theorem own_src {w : World} {B n size : Nat} {e : TypeId} {v : Value} {xs : List Value} (h : w.ownsRow B e size v n xs) (hl : xs.length = n * size) : ∃ A c, v = .slice A n c ∧ Src w size A n c xs := by
  have hcs := fun g => h.cells (g := g)
  rcases h.2 with ⟨rfl, h0⟩ | ⟨g, cap, cur, rfl, hB, hg, hcap, _⟩
  · subst h0
    exact ⟨none, 0, rfl, hl, .inl ⟨rfl, rfl, rfl⟩⟩
  · exact ⟨_, cap, rfl, hl, .inr ⟨_, rfl, hcs g rfl⟩⟩
/-- What is collected, and the copy of a statement. -/
structure LR (w : World) (g : Nat) (cs : Array Value) (xs : List Int) (v : Value) (W : World) : Prop where
  own : W.ownsRow w.heap.size 3 1 v xs.length (iv xs)
  bel : Below w.heap.size w W
  blk : Blk W g 88 cs
section
variable {w W W' : World} {g : Nat} {cs : Array Value} {xs ys : List Int} {v v' : Value}
theorem LR.below (h : LR w g cs xs v W) (hb : Below W.heap.size W W') : LR w g cs xs v W' :=
  ⟨own_keep h.own hb.size fun q hq => hb.block q (own_tag h.own hq).2.1, h.bel.trans (hb.mono h.bel.size), h.blk.below hb h.blk.lt⟩
theorem LR.app (h : LR w g cs xs v W) (hown : W'.ownsRow w.heap.size 3 1 v' (xs.length + ys.length) (iv xs ++ iv ys)) (hg : W.grownBy W' v.ownBlock) : LR w g cs (xs ++ ys) v' W' :=
  ⟨by simpa [iv] using hown, h.bel.grown hg h.bel.size fun k hk => (h.own.lt k hk).1, (hg.block g h.blk.lt fun e => by
    have h1 := (own_tag h.own e.symm).1
    have h2 := h.blk.tag
    rw [h1] at h2
    exact absurd h2 (by decide)).trans h.blk⟩
end
theorem labs_step {k l d kind : Int} {s : ByteArray} {i v : Exs} {m : Int} {t e r a : Sts} {j : Nat} (hdr : a.drop j = .cons k s i v m l t e r) (hd : d ≤ 20) :
    labsD (a.drop j) d kind = (if (k = 3 ∨ k = 4) ∧ (kind = 0 ∨ k = kind) then [l] else []) ++ labsD t (d + 1) kind ++ labsD e (d + 1) kind ++ labsD r d kind := by
  have h : ¬ 20 < d := by omega
  rw [hdr]
  simp only [labsD, if_neg h, Sts.labs]
set_option maxRecDepth 100000 in
set_option maxHeartbeats 6000000 in
theorem rlabs_any (kind : Int) (hkd : kind = 0 ∨ kind = 3 ∨ kind = 4) (N : Nat) : ∀ (a : Sts) (A : Option Addr) (c : Nat) (d : Int) (S : Nat → Prop) (w : World), a.height = N → a.Wf → a.len ≤ maxLen → a.cnt ≤ 1000000 → a.At w S A → 1 ≤ d → d ≤ 21 →
    Calls Tryd.prog 57 #[.slice A a.len c, .int .i64 d, .int .i64 kind] w fun e w' => ∃ v, e = .returned v ∧ w'.ownsRow w.heap.size 3 1 v (labsD a d kind).length (iv (labsD a d kind)) ∧ Below w.heap.size w w' := by
  induction N using Nat.strongRecOn with
  | _ N ih =>
    intro a A c d S w hh hwf hlen hcnt hat h1 h21
    have IH := Lib.hid ih
    have HW := Lib.hid (And.intro hwf (And.intro hat (And.intro hh hcnt)))
    unfold maxLen at hlen
    obtain ⟨len, hl⟩ : ∃ len, a.len = len := ⟨_, rfl⟩
    have HL := Lib.hid hl
    rw [hl] at hlen
    rw [hl]
    obtain ⟨i0, hi0, hz0, hz1, hz2⟩ := info_parts Tryd.infoInt
    have HI := Lib.hid (And.intro hi0 (And.intro hz0 (And.intro hz1 hz2)))
    clear ih hwf hat hh hl hcnt hi0 hz0 hz1 hz2
    go_enter Tryd.func57, Tryd.ntmps57
    go_wp2
    go_loopw [7, 8] (fun v i wr => ∃ (j : Nat) (xs : List Int), j ≤ len ∧ i = .int .i64 j ∧ w.heap.size ≤ wr.heap.size ∧ xs.length ≤ 1000000 ∧
        Hid (xs ++ labsD (a.drop j) d kind = labsD a d kind ∧ wr.ownsRow w.heap.size 3 1 v xs.length (iv xs) ∧ Below w.heap.size w wr)) (fun _ i _ => len - (intOf i).toNat)
    case atStart => exact ⟨0, [], Nat.zero_le _, rfl, Nat.le_refl _, by simp, Lib.hid ⟨by rw [Sts.drop_zero]; rfl, World.ownsRow_nil _ _ _ _, Below.refl _ _⟩⟩
    case round =>
      obtain ⟨j, xs, hj, rfl, hsz, hxl, hR⟩ := hrel
      by_cases hlt : j < len
      · have hlt' : (j : Int) < len := by omega
        by_cases hd : 20 < d
        · have hd' : decide (d ≤ 20) = false := by simp; omega
          have hfin : xs = labsD a d kind := by
            rw [← hR.out.1]
            simp only [labsD, if_pos hd, List.append_nil]
          have HF := Lib.hid hfin
          clear hfin hd
          go_wp2
          go_ret
          exact ⟨_, rfl, by rw [← HF.out]; exact hR.out.2.1, hR.out.2.2⟩
        · have hd' : decide (d ≤ 20) = true := by simp; omega
          have hd20 : d ≤ 20 := by omega
          clear hd
          obtain ⟨b, f, k, s, i, v, m, l, tt, ee, B2, c2, B3, c3, B6, c6, B7, c7, hA, hbl, hdr, ⟨e0, e1, e2, e3, e4, e5, e6, e7⟩, hi, hv, ht, he⟩ := sts_elem HW.out.2.1 (by rw [HL.out]; exact hlt)
          have hb := hR.out.2.2
          have g0 := (hb.cell (p := ⟨b, f + j * 8, none⟩) hbl).trans e0
          have g1 := (hb.cell (p := ⟨b, f + j * 8 + 1, none⟩) hbl).trans e1
          have g2 := (hb.cell (p := ⟨b, f + j * 8 + 2, none⟩) hbl).trans e2
          have g3 := (hb.cell (p := ⟨b, f + j * 8 + 3, none⟩) hbl).trans e3
          have g4 := (hb.cell (p := ⟨b, f + j * 8 + 4, none⟩) hbl).trans e4
          have g5 := (hb.cell (p := ⟨b, f + j * 8 + 5, none⟩) hbl).trans e5
          have g6 := (hb.cell (p := ⟨b, f + j * 8 + 6, none⟩) hbl).trans e6
          have g7 := (hb.cell (p := ⟨b, f + j * 8 + 7, none⟩) hbl).trans e7
          have hwf' := HW.out.1.drop j
          rw [hdr] at hwf'
          obtain ⟨_, _, _, _, _, _, ⟨wt1, wt2⟩, ⟨we1, we2⟩, _⟩ := hwf'
          have hht : tt.height < N ∧ ee.height < N := by
            have q := a.drop_height j
            rw [hdr] at q
            simp only [Sts.height] at q
            have := HW.out.2.2.1
            omega
          have hcn : tt.cnt + ee.cnt + 1 ≤ 1000000 := by
            have q := a.drop_cnt j
            rw [hdr] at q
            simp only [Sts.cnt] at q
            have := HW.out.2.2.2
            omega
          have hst := labs_step (kind := kind) hdr hd20
          have hstep : ∀ zs, zs = (if (k = 3 ∨ k = 4) ∧ (kind = 0 ∨ k = kind) then [l] else []) ++ labsD tt (d + 1) kind ++ labsD ee (d + 1) kind → (xs ++ zs) ++ labsD (a.drop (j + 1)) d kind = labsD a d kind ∧ (xs ++ zs).length ≤ 1000000 := fun zs hz => by
            have e1 : (xs ++ zs) ++ labsD (a.drop (j + 1)) d kind = labsD a d kind := by rw [← hR.out.1, hst, hz]; simp only [List.append_assoc]
            refine ⟨e1, ?_⟩
            have q1 := congrArg List.length e1
            have q2 := labsD_len a d kind
            have q3 := HW.out.2.2.2
            rw [List.length_append] at q1
            omega
          have HSt := Lib.hid hstep
          have HCt := Lib.hid (fun (W : World) (h : Below w.heap.size w W) => IH.out tt.height hht.1 tt B6 c6 (d + 1) S W rfl wt2 wt1 (by omega) (ht.2.keep h.size fun q hq hl => ⟨hq, fun f => h.cell (p := ⟨q, f, none⟩) hl⟩) (by omega) (by omega))
          have HCe := Lib.hid (fun (W : World) (h : Below w.heap.size w W) => IH.out ee.height hht.2 ee B7 c7 (d + 1) S W rfl we2 we1 (by omega) (he.2.keep h.size fun q hq hl => ⟨hq, fun f => h.cell (p := ⟨q, f, none⟩) hl⟩) (by omega) (by omega))
          have HLR := Lib.hid (show LR w wr.heap.size #[.int .i64 k, .string s, .slice B2 i.len c2, .slice B3 v.len c3, .int .i64 m, .int .i64 l, .slice B6 tt.len c6, .slice B7 ee.len c7] xs u7 (wr.alloc (.cells #[.int .i64 k, .string s, .slice B2 i.len c2, .slice B3 v.len c3, .int .i64 m, .int .i64 l, .slice B6 tt.len c6, .slice B7 ee.len c7] 88)) from
            ⟨hR.out.2.1.alloc _, hR.out.2.2.alloc hsz _, Blk.new _ _ _⟩)
          have HLt := Lib.hid (labsD_len tt (d + 1) kind)
          have HLe := Lib.hid (labsD_len ee (d + 1) kind)
          generalize hlt2 : labsD tt (d + 1) kind = lt at *
          generalize hle2 : labsD ee (d + 1) kind = le at *
          have n1 := HLt.out
          have n2 := HLe.out
          clear e0 e1 e2 e3 e4 e5 e6 e7 hi hv ht he hdr hht hst hstep hb wt1 wt2 we1 we2 HLt HLe
          subst hA
          have hk : k = 3 ∨ k = 4 ∨ (¬ k = 3 ∧ ¬ k = 4) := by omega
          rcases hk with rfl | rfl | ⟨k3, k4⟩
          · rcases hkd with rfl | rfl | rfl
            · skip
              go_wp2_with (at_builtin; refine wpList_append_src rfl (.tmp 42) (.tmp 45) 22 rfl w.heap.size 3 i0 _ 1 8 Tryd.underlying22 HI.out.1 HI.out.2.1 HI.out.2.2.1 HI.out.2.2.2 rfl (by decide) _ _ _ rfl (HLR.out.own.alloc _) _ _ _ (iv [l]) rfl ⟨rfl, .inr ⟨_, rfl, (by first | exact cell_one_new _ _ _ | exact cell_one_at (by simp))⟩⟩ (iv_one _) (by unfold maxLen; omega) (by omega) (by simp; omega) ?_; intro v1 W1 hown1 hgrow1; have HL1 := Lib.hid ((HLR.out.below ((Below.refl _ _).alloc (Nat.le_refl _) _)).app hown1 hgrow1); have c6' : W1.cell? ⟨wr.heap.size, 6, none⟩ = some (.slice B6 tt.len c6) := HL1.out.blk.cell 6; clear hown1 hgrow1 HLR)
              go_wp2_with fail
              refine (HCt.out _ HL1.out.bel).mono ?_
              rintro e W2 ⟨v2, rfl, hown2, hb2⟩
              obtain ⟨A2, cc2, rfl, hsrc2⟩ := own_src hown2 (by simp [iv])
              have HL2 := Lib.hid (HL1.out.below hb2)
              have HS2 := Lib.hid hsrc2
              have z2 := HL2.out.bel.size
              clear hown2 hb2 hsrc2
              go_wp2_with (at_builtin; refine wpList_append_src rfl (.tmp 47) (.tmp 53) 22 rfl w.heap.size 3 i0 _ 1 8 Tryd.underlying22 HI.out.1 HI.out.2.1 HI.out.2.2.1 HI.out.2.2.2 rfl (by decide) _ _ _ rfl HL2.out.own _ _ _ (iv lt) rfl HS2.out (iv_one _) (by unfold maxLen; simp only [List.length_append, List.length_cons, List.length_nil]; omega) (by simp only [List.length_append, List.length_cons, List.length_nil]; omega) z2 ?_; intro v3 W3 hown3 hgrow3; have HL3 := Lib.hid (HL2.out.app hown3 hgrow3); have c7' : W3.cell? ⟨wr.heap.size, 7, none⟩ = some (.slice B7 ee.len c7) := HL3.out.blk.cell 7; clear hown3 hgrow3 HL2 HS2)
              go_wp2_with fail
              refine (HCe.out _ HL3.out.bel).mono ?_
              rintro e W4 ⟨v4, rfl, hown4, hb4⟩
              obtain ⟨A4, cc4, rfl, hsrc4⟩ := own_src hown4 (by simp [iv])
              have HL4 := Lib.hid (HL3.out.below hb4)
              have HS4 := Lib.hid hsrc4
              have z4 := HL4.out.bel.size
              clear hown4 hb4 hsrc4
              go_wp2_with (at_builtin; refine wpList_append_src rfl (.tmp 55) (.tmp 61) 22 rfl w.heap.size 3 i0 _ 1 8 Tryd.underlying22 HI.out.1 HI.out.2.1 HI.out.2.2.1 HI.out.2.2.2 rfl (by decide) _ _ _ rfl HL4.out.own _ _ _ (iv le) rfl HS4.out (iv_one _) (by unfold maxLen; simp only [List.length_append, List.length_cons, List.length_nil]; omega) (by simp only [List.length_append, List.length_cons, List.length_nil]; omega) z4 ?_; intro v5 W5 hown5 hgrow5)
              have HL5 := Lib.hid (HL4.out.app hown5 hgrow5)
              have z5 := HL5.out.bel.size
              clear hown5 hgrow5 HL4 HS4 HL3
              go_wp2
              go_roundw
              case rel =>
                have hz := HSt.out ([l] ++ lt ++ le) (by simp)
                rw [show xs ++ ([l] ++ lt ++ le) = (xs ++ [l] ++ lt ++ le) by simp only [List.append_assoc]] at hz
                exact ⟨j + 1, (xs ++ [l] ++ lt ++ le), by omega, by go_num, z5, hz.2, Lib.hid ⟨hz.1, HL5.out.own, HL5.out.bel⟩⟩
              case measure => simp [intOf]; omega
            · skip
              go_wp2_with (at_builtin; refine wpList_append_src rfl (.tmp 42) (.tmp 45) 22 rfl w.heap.size 3 i0 _ 1 8 Tryd.underlying22 HI.out.1 HI.out.2.1 HI.out.2.2.1 HI.out.2.2.2 rfl (by decide) _ _ _ rfl (HLR.out.own.alloc _) _ _ _ (iv [l]) rfl ⟨rfl, .inr ⟨_, rfl, (by first | exact cell_one_new _ _ _ | exact cell_one_at (by simp))⟩⟩ (iv_one _) (by unfold maxLen; omega) (by omega) (by simp; omega) ?_; intro v1 W1 hown1 hgrow1; have HL1 := Lib.hid ((HLR.out.below ((Below.refl _ _).alloc (Nat.le_refl _) _)).app hown1 hgrow1); have c6' : W1.cell? ⟨wr.heap.size, 6, none⟩ = some (.slice B6 tt.len c6) := HL1.out.blk.cell 6; clear hown1 hgrow1 HLR)
              go_wp2_with fail
              refine (HCt.out _ HL1.out.bel).mono ?_
              rintro e W2 ⟨v2, rfl, hown2, hb2⟩
              obtain ⟨A2, cc2, rfl, hsrc2⟩ := own_src hown2 (by simp [iv])
              have HL2 := Lib.hid (HL1.out.below hb2)
              have HS2 := Lib.hid hsrc2
              have z2 := HL2.out.bel.size
              clear hown2 hb2 hsrc2
              go_wp2_with (at_builtin; refine wpList_append_src rfl (.tmp 47) (.tmp 53) 22 rfl w.heap.size 3 i0 _ 1 8 Tryd.underlying22 HI.out.1 HI.out.2.1 HI.out.2.2.1 HI.out.2.2.2 rfl (by decide) _ _ _ rfl HL2.out.own _ _ _ (iv lt) rfl HS2.out (iv_one _) (by unfold maxLen; simp only [List.length_append, List.length_cons, List.length_nil]; omega) (by simp only [List.length_append, List.length_cons, List.length_nil]; omega) z2 ?_; intro v3 W3 hown3 hgrow3; have HL3 := Lib.hid (HL2.out.app hown3 hgrow3); have c7' : W3.cell? ⟨wr.heap.size, 7, none⟩ = some (.slice B7 ee.len c7) := HL3.out.blk.cell 7; clear hown3 hgrow3 HL2 HS2)
              go_wp2_with fail
              refine (HCe.out _ HL3.out.bel).mono ?_
              rintro e W4 ⟨v4, rfl, hown4, hb4⟩
              obtain ⟨A4, cc4, rfl, hsrc4⟩ := own_src hown4 (by simp [iv])
              have HL4 := Lib.hid (HL3.out.below hb4)
              have HS4 := Lib.hid hsrc4
              have z4 := HL4.out.bel.size
              clear hown4 hb4 hsrc4
              go_wp2_with (at_builtin; refine wpList_append_src rfl (.tmp 55) (.tmp 61) 22 rfl w.heap.size 3 i0 _ 1 8 Tryd.underlying22 HI.out.1 HI.out.2.1 HI.out.2.2.1 HI.out.2.2.2 rfl (by decide) _ _ _ rfl HL4.out.own _ _ _ (iv le) rfl HS4.out (iv_one _) (by unfold maxLen; simp only [List.length_append, List.length_cons, List.length_nil]; omega) (by simp only [List.length_append, List.length_cons, List.length_nil]; omega) z4 ?_; intro v5 W5 hown5 hgrow5)
              have HL5 := Lib.hid (HL4.out.app hown5 hgrow5)
              have z5 := HL5.out.bel.size
              clear hown5 hgrow5 HL4 HS4 HL3
              go_wp2
              go_roundw
              case rel =>
                have hz := HSt.out ([l] ++ lt ++ le) (by simp)
                rw [show xs ++ ([l] ++ lt ++ le) = (xs ++ [l] ++ lt ++ le) by simp only [List.append_assoc]] at hz
                exact ⟨j + 1, (xs ++ [l] ++ lt ++ le), by omega, by go_num, z5, hz.2, Lib.hid ⟨hz.1, HL5.out.own, HL5.out.bel⟩⟩
              case measure => simp [intOf]; omega
            · skip
              go_wp2_with fail
              refine (HCt.out _ HLR.out.bel).mono ?_
              rintro e W2 ⟨v2, rfl, hown2, hb2⟩
              obtain ⟨A2, cc2, rfl, hsrc2⟩ := own_src hown2 (by simp [iv])
              have HL2 := Lib.hid (HLR.out.below hb2)
              have HS2 := Lib.hid hsrc2
              have z2 := HL2.out.bel.size
              clear hown2 hb2 hsrc2
              go_wp2_with (at_builtin; refine wpList_append_src rfl (.tmp 47) (.tmp 53) 22 rfl w.heap.size 3 i0 _ 1 8 Tryd.underlying22 HI.out.1 HI.out.2.1 HI.out.2.2.1 HI.out.2.2.2 rfl (by decide) _ _ _ rfl HL2.out.own _ _ _ (iv lt) rfl HS2.out (iv_one _) (by unfold maxLen; skip; omega) (by skip; omega) z2 ?_; intro v3 W3 hown3 hgrow3; have HL3 := Lib.hid (HL2.out.app hown3 hgrow3); have c7' : W3.cell? ⟨wr.heap.size, 7, none⟩ = some (.slice B7 ee.len c7) := HL3.out.blk.cell 7; clear hown3 hgrow3 HL2 HS2)
              go_wp2_with fail
              refine (HCe.out _ HL3.out.bel).mono ?_
              rintro e W4 ⟨v4, rfl, hown4, hb4⟩
              obtain ⟨A4, cc4, rfl, hsrc4⟩ := own_src hown4 (by simp [iv])
              have HL4 := Lib.hid (HL3.out.below hb4)
              have HS4 := Lib.hid hsrc4
              have z4 := HL4.out.bel.size
              clear hown4 hb4 hsrc4
              go_wp2_with (at_builtin; refine wpList_append_src rfl (.tmp 55) (.tmp 61) 22 rfl w.heap.size 3 i0 _ 1 8 Tryd.underlying22 HI.out.1 HI.out.2.1 HI.out.2.2.1 HI.out.2.2.2 rfl (by decide) _ _ _ rfl HL4.out.own _ _ _ (iv le) rfl HS4.out (iv_one _) (by unfold maxLen; simp only [List.length_append]; omega) (by simp only [List.length_append]; omega) z4 ?_; intro v5 W5 hown5 hgrow5)
              have HL5 := Lib.hid (HL4.out.app hown5 hgrow5)
              have z5 := HL5.out.bel.size
              clear hown5 hgrow5 HL4 HS4 HL3
              go_wp2
              go_roundw
              case rel =>
                have hz := HSt.out (lt ++ le) (by simp)
                rw [show xs ++ (lt ++ le) = (xs ++ lt ++ le) by simp only [List.append_assoc]] at hz
                exact ⟨j + 1, (xs ++ lt ++ le), by omega, by go_num, z5, hz.2, Lib.hid ⟨hz.1, HL5.out.own, HL5.out.bel⟩⟩
              case measure => simp [intOf]; omega
          · rcases hkd with rfl | rfl | rfl
            · skip
              go_wp2_with (at_builtin; refine wpList_append_src rfl (.tmp 42) (.tmp 45) 22 rfl w.heap.size 3 i0 _ 1 8 Tryd.underlying22 HI.out.1 HI.out.2.1 HI.out.2.2.1 HI.out.2.2.2 rfl (by decide) _ _ _ rfl (HLR.out.own.alloc _) _ _ _ (iv [l]) rfl ⟨rfl, .inr ⟨_, rfl, (by first | exact cell_one_new _ _ _ | exact cell_one_at (by simp))⟩⟩ (iv_one _) (by unfold maxLen; omega) (by omega) (by simp; omega) ?_; intro v1 W1 hown1 hgrow1; have HL1 := Lib.hid ((HLR.out.below ((Below.refl _ _).alloc (Nat.le_refl _) _)).app hown1 hgrow1); have c6' : W1.cell? ⟨wr.heap.size, 6, none⟩ = some (.slice B6 tt.len c6) := HL1.out.blk.cell 6; clear hown1 hgrow1 HLR)
              go_wp2_with fail
              refine (HCt.out _ HL1.out.bel).mono ?_
              rintro e W2 ⟨v2, rfl, hown2, hb2⟩
              obtain ⟨A2, cc2, rfl, hsrc2⟩ := own_src hown2 (by simp [iv])
              have HL2 := Lib.hid (HL1.out.below hb2)
              have HS2 := Lib.hid hsrc2
              have z2 := HL2.out.bel.size
              clear hown2 hb2 hsrc2
              go_wp2_with (at_builtin; refine wpList_append_src rfl (.tmp 47) (.tmp 53) 22 rfl w.heap.size 3 i0 _ 1 8 Tryd.underlying22 HI.out.1 HI.out.2.1 HI.out.2.2.1 HI.out.2.2.2 rfl (by decide) _ _ _ rfl HL2.out.own _ _ _ (iv lt) rfl HS2.out (iv_one _) (by unfold maxLen; simp only [List.length_append, List.length_cons, List.length_nil]; omega) (by simp only [List.length_append, List.length_cons, List.length_nil]; omega) z2 ?_; intro v3 W3 hown3 hgrow3; have HL3 := Lib.hid (HL2.out.app hown3 hgrow3); have c7' : W3.cell? ⟨wr.heap.size, 7, none⟩ = some (.slice B7 ee.len c7) := HL3.out.blk.cell 7; clear hown3 hgrow3 HL2 HS2)
              go_wp2_with fail
              refine (HCe.out _ HL3.out.bel).mono ?_
              rintro e W4 ⟨v4, rfl, hown4, hb4⟩
              obtain ⟨A4, cc4, rfl, hsrc4⟩ := own_src hown4 (by simp [iv])
              have HL4 := Lib.hid (HL3.out.below hb4)
              have HS4 := Lib.hid hsrc4
              have z4 := HL4.out.bel.size
              clear hown4 hb4 hsrc4
              go_wp2_with (at_builtin; refine wpList_append_src rfl (.tmp 55) (.tmp 61) 22 rfl w.heap.size 3 i0 _ 1 8 Tryd.underlying22 HI.out.1 HI.out.2.1 HI.out.2.2.1 HI.out.2.2.2 rfl (by decide) _ _ _ rfl HL4.out.own _ _ _ (iv le) rfl HS4.out (iv_one _) (by unfold maxLen; simp only [List.length_append, List.length_cons, List.length_nil]; omega) (by simp only [List.length_append, List.length_cons, List.length_nil]; omega) z4 ?_; intro v5 W5 hown5 hgrow5)
              have HL5 := Lib.hid (HL4.out.app hown5 hgrow5)
              have z5 := HL5.out.bel.size
              clear hown5 hgrow5 HL4 HS4 HL3
              go_wp2
              go_roundw
              case rel =>
                have hz := HSt.out ([l] ++ lt ++ le) (by simp)
                rw [show xs ++ ([l] ++ lt ++ le) = (xs ++ [l] ++ lt ++ le) by simp only [List.append_assoc]] at hz
                exact ⟨j + 1, (xs ++ [l] ++ lt ++ le), by omega, by go_num, z5, hz.2, Lib.hid ⟨hz.1, HL5.out.own, HL5.out.bel⟩⟩
              case measure => simp [intOf]; omega
            · skip
              go_wp2_with fail
              refine (HCt.out _ HLR.out.bel).mono ?_
              rintro e W2 ⟨v2, rfl, hown2, hb2⟩
              obtain ⟨A2, cc2, rfl, hsrc2⟩ := own_src hown2 (by simp [iv])
              have HL2 := Lib.hid (HLR.out.below hb2)
              have HS2 := Lib.hid hsrc2
              have z2 := HL2.out.bel.size
              clear hown2 hb2 hsrc2
              go_wp2_with (at_builtin; refine wpList_append_src rfl (.tmp 47) (.tmp 53) 22 rfl w.heap.size 3 i0 _ 1 8 Tryd.underlying22 HI.out.1 HI.out.2.1 HI.out.2.2.1 HI.out.2.2.2 rfl (by decide) _ _ _ rfl HL2.out.own _ _ _ (iv lt) rfl HS2.out (iv_one _) (by unfold maxLen; skip; omega) (by skip; omega) z2 ?_; intro v3 W3 hown3 hgrow3; have HL3 := Lib.hid (HL2.out.app hown3 hgrow3); have c7' : W3.cell? ⟨wr.heap.size, 7, none⟩ = some (.slice B7 ee.len c7) := HL3.out.blk.cell 7; clear hown3 hgrow3 HL2 HS2)
              go_wp2_with fail
              refine (HCe.out _ HL3.out.bel).mono ?_
              rintro e W4 ⟨v4, rfl, hown4, hb4⟩
              obtain ⟨A4, cc4, rfl, hsrc4⟩ := own_src hown4 (by simp [iv])
              have HL4 := Lib.hid (HL3.out.below hb4)
              have HS4 := Lib.hid hsrc4
              have z4 := HL4.out.bel.size
              clear hown4 hb4 hsrc4
              go_wp2_with (at_builtin; refine wpList_append_src rfl (.tmp 55) (.tmp 61) 22 rfl w.heap.size 3 i0 _ 1 8 Tryd.underlying22 HI.out.1 HI.out.2.1 HI.out.2.2.1 HI.out.2.2.2 rfl (by decide) _ _ _ rfl HL4.out.own _ _ _ (iv le) rfl HS4.out (iv_one _) (by unfold maxLen; simp only [List.length_append]; omega) (by simp only [List.length_append]; omega) z4 ?_; intro v5 W5 hown5 hgrow5)
              have HL5 := Lib.hid (HL4.out.app hown5 hgrow5)
              have z5 := HL5.out.bel.size
              clear hown5 hgrow5 HL4 HS4 HL3
              go_wp2
              go_roundw
              case rel =>
                have hz := HSt.out (lt ++ le) (by simp)
                rw [show xs ++ (lt ++ le) = (xs ++ lt ++ le) by simp only [List.append_assoc]] at hz
                exact ⟨j + 1, (xs ++ lt ++ le), by omega, by go_num, z5, hz.2, Lib.hid ⟨hz.1, HL5.out.own, HL5.out.bel⟩⟩
              case measure => simp [intOf]; omega
            · skip
              go_wp2_with (at_builtin; refine wpList_append_src rfl (.tmp 42) (.tmp 45) 22 rfl w.heap.size 3 i0 _ 1 8 Tryd.underlying22 HI.out.1 HI.out.2.1 HI.out.2.2.1 HI.out.2.2.2 rfl (by decide) _ _ _ rfl (HLR.out.own.alloc _) _ _ _ (iv [l]) rfl ⟨rfl, .inr ⟨_, rfl, (by first | exact cell_one_new _ _ _ | exact cell_one_at (by simp))⟩⟩ (iv_one _) (by unfold maxLen; omega) (by omega) (by simp; omega) ?_; intro v1 W1 hown1 hgrow1; have HL1 := Lib.hid ((HLR.out.below ((Below.refl _ _).alloc (Nat.le_refl _) _)).app hown1 hgrow1); have c6' : W1.cell? ⟨wr.heap.size, 6, none⟩ = some (.slice B6 tt.len c6) := HL1.out.blk.cell 6; clear hown1 hgrow1 HLR)
              go_wp2_with fail
              refine (HCt.out _ HL1.out.bel).mono ?_
              rintro e W2 ⟨v2, rfl, hown2, hb2⟩
              obtain ⟨A2, cc2, rfl, hsrc2⟩ := own_src hown2 (by simp [iv])
              have HL2 := Lib.hid (HL1.out.below hb2)
              have HS2 := Lib.hid hsrc2
              have z2 := HL2.out.bel.size
              clear hown2 hb2 hsrc2
              go_wp2_with (at_builtin; refine wpList_append_src rfl (.tmp 47) (.tmp 53) 22 rfl w.heap.size 3 i0 _ 1 8 Tryd.underlying22 HI.out.1 HI.out.2.1 HI.out.2.2.1 HI.out.2.2.2 rfl (by decide) _ _ _ rfl HL2.out.own _ _ _ (iv lt) rfl HS2.out (iv_one _) (by unfold maxLen; simp only [List.length_append, List.length_cons, List.length_nil]; omega) (by simp only [List.length_append, List.length_cons, List.length_nil]; omega) z2 ?_; intro v3 W3 hown3 hgrow3; have HL3 := Lib.hid (HL2.out.app hown3 hgrow3); have c7' : W3.cell? ⟨wr.heap.size, 7, none⟩ = some (.slice B7 ee.len c7) := HL3.out.blk.cell 7; clear hown3 hgrow3 HL2 HS2)
              go_wp2_with fail
              refine (HCe.out _ HL3.out.bel).mono ?_
              rintro e W4 ⟨v4, rfl, hown4, hb4⟩
              obtain ⟨A4, cc4, rfl, hsrc4⟩ := own_src hown4 (by simp [iv])
              have HL4 := Lib.hid (HL3.out.below hb4)
              have HS4 := Lib.hid hsrc4
              have z4 := HL4.out.bel.size
              clear hown4 hb4 hsrc4
              go_wp2_with (at_builtin; refine wpList_append_src rfl (.tmp 55) (.tmp 61) 22 rfl w.heap.size 3 i0 _ 1 8 Tryd.underlying22 HI.out.1 HI.out.2.1 HI.out.2.2.1 HI.out.2.2.2 rfl (by decide) _ _ _ rfl HL4.out.own _ _ _ (iv le) rfl HS4.out (iv_one _) (by unfold maxLen; simp only [List.length_append, List.length_cons, List.length_nil]; omega) (by simp only [List.length_append, List.length_cons, List.length_nil]; omega) z4 ?_; intro v5 W5 hown5 hgrow5)
              have HL5 := Lib.hid (HL4.out.app hown5 hgrow5)
              have z5 := HL5.out.bel.size
              clear hown5 hgrow5 HL4 HS4 HL3
              go_wp2
              go_roundw
              case rel =>
                have hz := HSt.out ([l] ++ lt ++ le) (by simp)
                rw [show xs ++ ([l] ++ lt ++ le) = (xs ++ [l] ++ lt ++ le) by simp only [List.append_assoc]] at hz
                exact ⟨j + 1, (xs ++ [l] ++ lt ++ le), by omega, by go_num, z5, hz.2, Lib.hid ⟨hz.1, HL5.out.own, HL5.out.bel⟩⟩
              case measure => simp [intOf]; omega
          · have b3 : (k == 3) = false := by simp [k3]
            have b4 : (k == 4) = false := by simp [k4]
            have HK := Lib.hid (And.intro k3 k4)
            clear k3 k4
            replace HSt := Lib.hid (fun zs (hz : zs = lt ++ le) => HSt.out zs (by rw [hz, if_neg (by have := HK.out; omega)]; rfl))
            go_wp2_with fail
            refine (HCt.out _ HLR.out.bel).mono ?_
            rintro e W2 ⟨v2, rfl, hown2, hb2⟩
            obtain ⟨A2, cc2, rfl, hsrc2⟩ := own_src hown2 (by simp [iv])
            have HL2 := Lib.hid (HLR.out.below hb2)
            have HS2 := Lib.hid hsrc2
            have z2 := HL2.out.bel.size
            clear hown2 hb2 hsrc2
            go_wp2_with (at_builtin; refine wpList_append_src rfl (.tmp 47) (.tmp 53) 22 rfl w.heap.size 3 i0 _ 1 8 Tryd.underlying22 HI.out.1 HI.out.2.1 HI.out.2.2.1 HI.out.2.2.2 rfl (by decide) _ _ _ rfl HL2.out.own _ _ _ (iv lt) rfl HS2.out (iv_one _) (by unfold maxLen; skip; omega) (by skip; omega) z2 ?_; intro v3 W3 hown3 hgrow3; have HL3 := Lib.hid (HL2.out.app hown3 hgrow3); have c7' : W3.cell? ⟨wr.heap.size, 7, none⟩ = some (.slice B7 ee.len c7) := HL3.out.blk.cell 7; clear hown3 hgrow3 HL2 HS2)
            go_wp2_with fail
            refine (HCe.out _ HL3.out.bel).mono ?_
            rintro e W4 ⟨v4, rfl, hown4, hb4⟩
            obtain ⟨A4, cc4, rfl, hsrc4⟩ := own_src hown4 (by simp [iv])
            have HL4 := Lib.hid (HL3.out.below hb4)
            have HS4 := Lib.hid hsrc4
            have z4 := HL4.out.bel.size
            clear hown4 hb4 hsrc4
            go_wp2_with (at_builtin; refine wpList_append_src rfl (.tmp 55) (.tmp 61) 22 rfl w.heap.size 3 i0 _ 1 8 Tryd.underlying22 HI.out.1 HI.out.2.1 HI.out.2.2.1 HI.out.2.2.2 rfl (by decide) _ _ _ rfl HL4.out.own _ _ _ (iv le) rfl HS4.out (iv_one _) (by unfold maxLen; simp only [List.length_append]; omega) (by simp only [List.length_append]; omega) z4 ?_; intro v5 W5 hown5 hgrow5)
            have HL5 := Lib.hid (HL4.out.app hown5 hgrow5)
            have z5 := HL5.out.bel.size
            clear hown5 hgrow5 HL4 HS4 HL3
            go_wp2
            go_roundw
            case rel =>
              have hz := HSt.out (lt ++ le) (by simp)
              rw [show xs ++ (lt ++ le) = (xs ++ lt ++ le) by simp only [List.append_assoc]] at hz
              exact ⟨j + 1, (xs ++ lt ++ le), by omega, by go_num, z5, hz.2, Lib.hid ⟨hz.1, HL5.out.own, HL5.out.bel⟩⟩
            case measure => simp [intOf]; omega
      · have hfin : xs = labsD a d kind := by
          rw [← hR.out.1, Sts.drop_nil _ _ (by rw [HL.out]; omega)]
          simp only [labsD, Sts.labs, ite_self, List.append_nil]
        have HF := Lib.hid hfin
        clear hfin
        go_wp2
        go_ret
        exact ⟨_, rfl, by rw [← HF.out]; exact hR.out.2.1, hR.out.2.2⟩
end Go.Proofs.YtbppfhlpielpcaaDoor
