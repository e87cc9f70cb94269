/- The walk of the law FactSums: it answers true. -/
import Derived.Test.YtpinncjnfbebkaaFaAwake
namespace Go.Proofs.Ytpinncjnfbebkaa
open Go.RowKit
set_option linter.unusedVariables false
set_option linter.unusedSimpArgs false
attribute [local go_sem] y_undef
/-- A row in the making beside the deck, behind a world that stays but for the deck. -/
def Cn (W : World) (D : Nat) (v : Value) (zs : List Int) (T : TypeId) (sz : Nat) (x : Value) (n : Nat) (xs : List Value) (u : World) : Prop :=
  Deck u v zs D ∧ D < W.heap.size ∧ W.grownBy u (some D) ∧ u.ownsRow W.heap.size T sz x n xs
section
variable {W u u' : World} {D n sz m : Nat} {v x : Value} {zs : List Int} {T : TypeId} {xs ys : List Value}
theorem Cn.below (h : Cn W D v zs T sz x n xs u) (hb : Below u.heap.size u u') : Cn W D v zs T sz x n xs u' := ⟨h.1.below hb, h.2.1, grown_trans h.2.2.1 (grown_below hb), own_below h.2.2.2 hb⟩
theorem Cn.alloc (h : Cn W D v zs T sz x n xs u) (o : Obj) : Cn W D v zs T sz x n xs (u.alloc o) := h.below ((Below.refl _ _).alloc (Nat.le_refl _) o)
theorem Cn.next (h : Cn W D v zs T sz x n xs u) (hd : Deck u' v zs D) (hg : u.grownBy u' (some D)) : Cn W D v zs T sz x n xs u' := ⟨hd, h.2.1, grown_trans h.2.2.1 hg, own_grown h.2.2.2 hg h.2.1⟩
theorem Cn.app (h : Cn W D v zs T sz x n xs u) {x' : Value} (hown : u'.ownsRow W.heap.size T sz x' (n + m) (xs ++ ys)) (hg : u.grownBy u' x.ownBlock) : Cn W D v zs T sz x' (n + m) (xs ++ ys) u' :=
  ⟨h.1.grown hg (fun k hk => by have := (h.2.2.2.lt k hk).1; have := h.2.1; omega), h.2.1, grown_old h.2.2.1 hg (fun k hk => (h.2.2.2.lt k hk).1), hown⟩
theorem Cn.start (hd : Deck u v zs D) (hD : D < u.heap.size) (T : TypeId) (sz : Nat) : Cn u D v zs T sz (.slice none 0 0) 0 [] u := ⟨hd, hD, grown_refl _ _, World.ownsRow_nil _ _ _ _⟩
theorem Cn.size (h : Cn W D v zs T sz x n xs u) : W.heap.size ≤ u.heap.size := h.2.2.1.size
end
namespace Fa
theorem val_bds {c : Int → Int} {B K : Int} (hB : 0 ≤ B) (hK : 0 ≤ K) (hc : ∀ b, 0 ≤ c b ∧ c b ≤ K) : ∀ (l : Tms), (∀ t ∈ l, -B ≤ t.2 ∧ t.2 ≤ B) → -(B * K * l.length) ≤ val l c ∧ val l c ≤ B * K * l.length
  | [], _ => by simp [val]
  | t :: r, h => by
    have ih := val_bds hB hK hc r (fun x hx => h x (by simp [hx]))
    have ht := h t (by simp)
    have hx := hc t.1
    have e : B * K * ((t :: r).length : Int) = B * K * r.length + B * K := by simp [Int.mul_add]
    have h1 : t.2 * c t.1 ≤ B * K := Int.le_trans (Int.mul_le_mul_of_nonneg_right ht.2 hx.1) (Int.mul_le_mul_of_nonneg_left hx.2 hB)
    have h2 : -(B * K) ≤ t.2 * c t.1 := by
      have h3 : -B * c t.1 ≤ t.2 * c t.1 := Int.mul_le_mul_of_nonneg_right ht.1 hx.1
      have h4 : B * c t.1 ≤ B * K := Int.mul_le_mul_of_nonneg_left hx.2 hB
      rw [Int.neg_mul] at h3
      omega
    simp only [val]
    rw [e]
    omega
theorem sums_all {f g : Tms} {m mg a b : Int} {cs : List Int} (hf : Fk 8 f m) (hg : Fk 8 g mg) (ha : 0 ≤ a ∧ a ≤ 255) (hb : 0 ≤ b ∧ b ≤ 255) (hl : cs.length ≤ 256) (hc : ∀ c ∈ cs, 0 ≤ c ∧ c ≤ 8) :
    ∃ (L : Tms) (p q : Int), addR f m g mg a b = (L, a * m + b * mg, 0) ∧ L.length ≤ 256 ∧ sumR f m cs = (p, 0) ∧ sumR g mg cs = (q, 0) ∧ sumR L (a * m + b * mg) cs = (a * p + b * q, 0) ∧ (-2304 ≤ p ∧ p ≤ 2304) ∧ (-2304 ≤ q ∧ q ≤ 2304) := by
  have hc' : ∀ c ∈ cs, 0 ≤ c ∧ c ≤ 2147483648 := fun c h => by have := hc c h; omega
  obtain ⟨h1, p, q, h2, h3, h4⟩ := sums hf hg ha hb hl hc'
  have hcb : ∀ b : Int, 0 ≤ cs.getD b.toNat 0 ∧ cs.getD b.toNat 0 ≤ 8 := fun b => getD_bds (by omega) hc _
  have e1 := sum_is hf.chk hl hc'
  have e2 := sum_is hg.chk hl hc'
  rw [h2] at e1
  rw [h3] at e2
  injection e1 with e1
  injection e2 with e2
  have b1 := val_bds (B := 36) (K := 8) (by omega) (by omega) hcb f (fun t h => (hf.mem t h).2)
  have b2 := val_bds (B := 36) (K := 8) (by omega) (by omega) hcb g (fun t h => (hg.mem t h).2)
  have := hf.len
  have := hg.len
  refine ⟨_, p, q, h1, norm_len _ _, h2, h3, h4, by rw [e1]; omega, by rw [e2]; omega⟩
theorem holds_is {f : Tms} {m p : Int} {cs : List Int} (h : sumR f m cs = (p, 0)) : holds f m cs = decide (p ≤ m) := by
  unfold holds
  rw [h]
  simp
end Fa
set_option maxRecDepth 100000 in
set_option maxHeartbeats 16000000 in
theorem sums_law (v : Value) (zs : List Int) (a b : Int) (w : World) (hv : IntsIn .i64 w v zs) (hvb : ∀ a n c, v = .slice (some a) n c → a.block < w.heap.size) (hm : zs.length ≤ maxLen) (hz : ∀ z ∈ zs, -9223372036854775808 ≤ z ∧ z ≤ 9223372036854775807)
    (ha : 0 ≤ a ∧ a ≤ 255) (hb : 0 ≤ b ∧ b ≤ 255) :
    Calls Try.prog 6 #[v, .int .u8 a, .int .u8 b] w fun e w' => e = .returned (.bool true) ∧ Below w.heap.size w w' := by
  cases hfew : decide (zs.length ≤ 400)
  · have HF := Lib.hid (few_any v zs false w hv hm hfew)
    clear hv hvb hm hz hfew
    go_enter Try.func6, Try.ntmps6
    go_wp2_with fail
    refine HF.out.mono ?_
    rintro e w' ⟨rfl, rfl⟩
    go_wp2_with fail
    refine (awake_any _).mono ?_
    rintro e w5 ⟨rfl, hb5⟩
    go_wp2
    go_ret
    exact ⟨rfl, hb5⟩
  · have HF := Lib.hid (few_any v zs true w hv hm hfew)
    have HN := Lib.hid (newdeck_any v zs w hv hvb hm hz)
    have HA := Lib.hid (And.intro ha hb)
    clear hv hvb hm hz hfew
    obtain ⟨iI, hi0, hz0, hz1, hz2⟩ := info_parts Try.infoInt
    have HII := Lib.hid (And.intro hi0 (And.intro hz0 (And.intro hz1 hz2)))
    clear hi0 hz0 hz1 hz2
    go_enter Try.func6, Try.ntmps6
    go_wp2_with fail
    refine HF.out.mono ?_
    rintro e w' ⟨rfl, rfl⟩
    go_wp2_with fail
    refine HN.out.mono ?_
    rintro e w1 ⟨rfl, hd, hb1⟩
    have HB1 := Lib.hid hb1
    obtain ⟨D, hD⟩ : ∃ D, w.heap.size = D := ⟨_, rfl⟩
    have HD := Lib.hid hD
    rw [hD] at hd
    have HDk := Lib.hid hd
    simp only [hD]
    clear hd hb1 HF HN hD
    go_wp2_with fail
    refine (some_any D 8 v zs w1 HDk.out (by omega)).mono ?_
    rintro e w2 ⟨x1, l1, m1, rfl, hf, ho1, hd2, hg2⟩
    obtain ⟨A1, c1, rfl, _⟩ := RowIn.own ho1
    have H2 := Lib.hid (And.intro hf (And.intro ho1 (And.intro hd2 (grown_to hg2 (Nat.le_refl _) (Nat.le_of_lt HDk.out.lt)))))
    clear hf ho1 hd2 hg2
    go_wp2_with fail
    refine (some_any D 8 v zs w2 H2.out.2.2.1 (by omega)).mono ?_
    rintro e w3 ⟨x2, l2, m2, rfl, hg, ho2, hd3, hg3⟩
    obtain ⟨A2, c2, rfl, _⟩ := RowIn.own ho2
    have hlt2 := H2.out.2.2.1.lt
    have H3 := Lib.hid (And.intro hg (And.intro (own_grown H2.out.2.1 hg3 HDk.out.lt) (And.intro ho2 (And.intro hd3 (H2.out.2.2.2.trans (grown_to hg3 (Nat.le_refl _) (Nat.le_of_lt hlt2)))))))
    have HF1 := Lib.hid H2.out.1
    clear hg ho2 hd3 hg3 H2
    have hbx1 : Bk ((w3.alloc (.cells #[.slice A1 l1.length c1, .int .i64 m1] 30)).alloc (.cells #[.slice A2 l2.length c2, .int .i64 m2] 30)) w3.heap.size 30 #[.slice A1 l1.length c1, .int .i64 m1] := bk_alloc (Bk.new _ _ _) _
    have hbx2 : Bk ((w3.alloc (.cells #[.slice A1 l1.length c1, .int .i64 m1] 30)).alloc (.cells #[.slice A2 l2.length c2, .int .i64 m2] 30)) (w3.heap.size + 1) 30 #[.slice A2 l2.length c2, .int .i64 m2] := bk_new' (by simp)
    have hal : Below w3.heap.size w3 ((w3.alloc (.cells #[.slice A1 l1.length c1, .int .i64 m1] 30)).alloc (.cells #[.slice A2 l2.length c2, .int .i64 m2] 30)) := ((Below.refl _ _).alloc (Nat.le_refl _) _).alloc (by simp) _
    have HL := Lib.hid hal
    have HX := Lib.hid (And.intro hbx1 hbx2)
    clear hbx1 hbx2 hal
    go_wp2
    generalize (w3.alloc (.cells #[.slice A1 l1.length c1, .int .i64 m1] 30)).alloc (.cells #[.slice A2 l2.length c2, .int .i64 m2] 30) = W at *
    have hDW : D < W.heap.size := by have := H3.out.2.2.2.1.lt; have := HL.out.size; omega
    go_loopw [10, 11] (fun x i wr => ∃ (k : Nat) (q : List Int), k ≤ 8 ∧ i = .int .i64 k ∧ Hid ((q.length = k ∧ ∀ c ∈ q, 0 ≤ c ∧ c ≤ 8) ∧ Cn W D v zs 3 1 x q.length (q.map (Value.int .i64)) wr)) (fun _ i _ => 8 - (intOf i).toNat)
    case atStart => exact ⟨0, [], by omega, rfl, Lib.hid ⟨⟨rfl, fun c hc => by simp at hc⟩, Cn.start (H3.out.2.2.2.1.below HL.out) hDW _ _⟩⟩
    case round =>
      obtain ⟨k, q, hk, rfl, HK⟩ := hrel
      by_cases hlt : k < 8
      · have hlt' : (k : Int) < 8 := by omega
        have hql := HK.out.1.1
        go_wp2_with fail
        refine (next_any 9 D v zs _ HK.out.2.1 (by omega)).mono ?_
        rintro e w4 ⟨r, rfl, hr0, hr1, hd4, hg4⟩
        have HC := Lib.hid (HK.out.2.next hd4 hg4)
        have hr : 0 ≤ r ∧ r ≤ 8 := by omega
        clear hd4 hg4 hr0 hr1
        have HNa := Lib.hid (show ∀ i u, ([Value.int .i64 r])[i]? = some u → (w4.alloc (.cells #[.int .i64 r] 3)).cell? ((⟨w4.heap.size, 0, none⟩ : Addr).add i) = some u from World.news_of_block (cs := #[.int .i64 r]) (heap_alloc_new w4 _))
        have HBa := Lib.hid (show W.heap.size ≤ (w4.alloc (.cells #[.int .i64 r] 3)).heap.size by have := HC.out.size; simp; omega)
        go_wp2_with (at_builtin; refine wpList_append_own_at _ rfl (.tmp 34) (.tmp 37) 22 rfl W.heap.size 3 iI _ 1 8 Try.underlying22 HII.out.1 HII.out.2.1 HII.out.2.2.1 HII.out.2.2.2 rfl (by decide) u10 q.length (q.map (Value.int .i64)) rfl (HC.out.alloc _).2.2.2 ⟨w4.heap.size, 0, none⟩ 1 1 [Value.int .i64 r] rfl rfl HNa.out (by intro u hu; simp at hu; subst hu; rfl) (by unfold maxLen; omega) (by omega) HBa.out ?_; intro v' w' hown hgr _ _; have HCa := Lib.hid ((HC.out.alloc _).app hown hgr); clear hown hgr)
        go_roundw
        case rel => exact ⟨k + 1, q ++ [r], by omega, by first | rfl | go_num, Lib.hid ⟨⟨by simp; omega, fun c hc => by
          rcases List.mem_append.1 hc with h | h
          · exact HK.out.1.2 c h
          · obtain rfl : c = r := by simpa using h
            exact hr⟩, by simpa using HCa.out⟩⟩
        case measure => simp [intOf]; omega
      · have hlt' : ¬ (k : Int) < 8 := by omega
        obtain ⟨L, p1, p2, hadd, hLl, hs1, hs2, hs3, hp1, hp2⟩ := Fa.sums_all HF1.out H3.out.1 HA.out.1 HA.out.2 (cs := q) (by have := HK.out.1.1; omega) HK.out.1.2
        have hg5 := HK.out.2.2.2.1
        have hr1 : PrsIn wr (.slice A1 l1.length c1) l1 := RowIn.own (own_grown (own_below H3.out.2.1 HL.out) hg5 (by have := HDk.out.lt; omega))
        have hr2 : PrsIn wr (.slice A2 l2.length c2) l2 := RowIn.own (own_grown (own_below H3.out.2.2.1 HL.out) hg5 (by have := HDk.out.lt; have := H3.out.2.2.2.2.size; omega))
        have hcnt : NumsIn wr u10 q := RowIn.own HK.out.2.2.2.2
        have hD3 := H3.out.2.2.2.1.lt
        have hb1 := bk_grown HX.out.1 hg5 (fun e => by injection e with e; omega)
        have hb2 := bk_grown HX.out.2 hg5 (fun e => by injection e with e; omega)
        have hql : q.length ≤ 8 := by have := HK.out.1.1; omega
        have HGL0 := Lib.hid (show Below D w wr from
          ((HD.out ▸ HB1.out : Below D w w1).trans H3.out.2.2.2.2).trans ((HL.out.mono (by omega)).trans (grown_to hg5 (Nat.le_refl _) (by omega))))
        have HS := Lib.hid (And.intro hs1 (And.intro hs2 hs3))
        obtain ⟨M, hM⟩ : ∃ M, a * m1 + b * m2 = M := ⟨_, rfl⟩
        have HM := Lib.hid hM
        rw [hM] at hadd
        have HAd := Lib.hid (fadd_any l1 m1 (.slice A1 l1.length c1) l2 m2 (.slice A2 l2.length c2) a b _ wr hr1 (by have := HF1.out.len; unfold maxLen; omega) hr2 (by have := H3.out.1.len; unfold maxLen; omega) hadd)
        have HR := Lib.hid (And.intro hr1 (And.intro hr2 (And.intro hcnt (And.intro hb1 hb2))))
        have k0 : wr.cell? ⟨w3.heap.size, 0, none⟩ = some (.slice A1 l1.length c1) := hb1.cell 0
        have k1 : wr.cell? ⟨w3.heap.size, 1, none⟩ = some (.int .i64 m1) := hb1.cell 1
        have k2 : wr.cell? ⟨w3.heap.size + 1, 0, none⟩ = some (.slice A2 l2.length c2) := hb2.cell 0
        have k3 : wr.cell? ⟨w3.heap.size + 1, 1, none⟩ = some (.int .i64 m2) := hb2.cell 1
        have hca : IntKind.i64.wrap a = a := IntWalk.i64_in _ (by omega)
        have hcb : IntKind.i64.wrap b = b := IntWalk.i64_in _ (by omega)
        clear hadd hr1 hr2 hcnt hb1 hb2 hs1 hs2 hs3
        go_wp2_with fail
        refine HAd.out.mono ?_
        rintro e w5 ⟨y, he, ho, hb5⟩
        simp only at he ho
        subst he
        obtain ⟨A3, c3, rfl, _⟩ := RowIn.own ho
        have hU : Below wr.heap.size wr (w5.alloc (.cells #[.slice A3 L.length c3, .int .i64 M] 30)) := (hb5.trans ((Below.refl _ _).alloc (Nat.le_refl _) _ |>.mono hb5.size))
        have HBY := Lib.hid (show ∀ u', Below (w5.alloc (.cells #[.slice A3 L.length c3, .int .i64 M] 30)).heap.size (w5.alloc (.cells #[.slice A3 L.length c3, .int .i64 M] 30)) u' → (Bk u' w3.heap.size 30 #[.slice A1 l1.length c1, .int .i64 m1] ∧ Bk u' (w3.heap.size + 1) 30 #[.slice A2 l2.length c2, .int .i64 m2] ∧ Bk u' w5.heap.size 30 #[.slice A3 L.length c3, .int .i64 M]) ∧
            PrsIn u' (.slice A1 l1.length c1) l1 ∧ PrsIn u' (.slice A2 l2.length c2) l2 ∧ PrsIn u' (.slice A3 L.length c3) L ∧ NumsIn u' u10 q from fun u' hb =>
          ⟨⟨(HR.out.2.2.2.1.below hU).below hb, (HR.out.2.2.2.2.below hU).below hb, (Bk.new w5 _ _).below hb⟩, (HR.out.1.below hU).below hb, (HR.out.2.1.below hU).below hb, ((RowIn.own ho : PrsIn w5 (.slice A3 L.length c3) L).below ((Below.refl _ _).alloc (Nat.le_refl _) _)).below hb, (HR.out.2.2.1.below hU).below hb⟩)
        have HGL := Lib.hid (show ∀ u', Below (w5.alloc (.cells #[.slice A3 L.length c3, .int .i64 M] 30)).heap.size (w5.alloc (.cells #[.slice A3 L.length c3, .int .i64 M] 30)) u' → Below w.heap.size w u' from fun u' hb => by
          rw [HD.out]
          have h1 := HGL0.out.size
          have h2 := hU.size
          have h3 := HB1.out.size
          have h4 := HD.out
          exact (HGL0.out.trans (hU.mono (by omega))).trans (hb.mono (by omega)))
        clear ho hb5 hU HAd HR k0 k1 k2 k3
        have HU0 := Below.refl (w5.alloc (.cells #[.slice A3 L.length c3, .int .i64 M] 30)).heap.size (w5.alloc (.cells #[.slice A3 L.length c3, .int .i64 M] 30))
        obtain ⟨⟨y1, y2, y3⟩, z1, z2, z3, zc⟩ := HBY.out (w5.alloc (.cells #[.slice A3 L.length c3, .int .i64 M] 30)) HU0
        have k0 : World.cell? (w5.alloc (.cells #[.slice A3 L.length c3, .int .i64 M] 30)) ⟨w3.heap.size, 0, none⟩ = some (.slice A1 l1.length c1) := y1.cell 0
        have k1 : World.cell? (w5.alloc (.cells #[.slice A3 L.length c3, .int .i64 M] 30)) ⟨w3.heap.size, 1, none⟩ = some (.int .i64 m1) := y1.cell 1
        have k2 : World.cell? (w5.alloc (.cells #[.slice A3 L.length c3, .int .i64 M] 30)) ⟨w3.heap.size + 1, 0, none⟩ = some (.slice A2 l2.length c2) := y2.cell 0
        have k3 : World.cell? (w5.alloc (.cells #[.slice A3 L.length c3, .int .i64 M] 30)) ⟨w3.heap.size + 1, 1, none⟩ = some (.int .i64 m2) := y2.cell 1
        have k4 : World.cell? (w5.alloc (.cells #[.slice A3 L.length c3, .int .i64 M] 30)) ⟨w5.heap.size, 0, none⟩ = some (.slice A3 L.length c3) := y3.cell 0
        have k5 : World.cell? (w5.alloc (.cells #[.slice A3 L.length c3, .int .i64 M] 30)) ⟨w5.heap.size, 1, none⟩ = some (.int .i64 M) := y3.cell 1
        go_wp2_with fail
        refine (fsum_any l1 m1 _ q _ p1 0 _ z1 (by have := HF1.out.len; unfold maxLen; omega) zc (by unfold maxLen; omega) HS.out.1).mono ?_
        rintro e w6 ⟨rfl, hbn⟩
        have HBw6 := Lib.hid (Below.trans HU0 (hbn.mono HU0.size))
        clear hbn k0 k1 k2 k3 k4 k5 y1 y2 y3 z1 z2 z3 zc
        obtain ⟨⟨y1, y2, y3⟩, z1, z2, z3, zc⟩ := HBY.out w6 HBw6.out
        have k0 : World.cell? w6 ⟨w3.heap.size, 0, none⟩ = some (.slice A1 l1.length c1) := y1.cell 0
        have k1 : World.cell? w6 ⟨w3.heap.size, 1, none⟩ = some (.int .i64 m1) := y1.cell 1
        have k2 : World.cell? w6 ⟨w3.heap.size + 1, 0, none⟩ = some (.slice A2 l2.length c2) := y2.cell 0
        have k3 : World.cell? w6 ⟨w3.heap.size + 1, 1, none⟩ = some (.int .i64 m2) := y2.cell 1
        have k4 : World.cell? w6 ⟨w5.heap.size, 0, none⟩ = some (.slice A3 L.length c3) := y3.cell 0
        have k5 : World.cell? w6 ⟨w5.heap.size, 1, none⟩ = some (.int .i64 M) := y3.cell 1
        go_wp2_with fail
        refine (fsum_any l2 m2 _ q _ p2 0 _ z2 (by have := H3.out.1.len; unfold maxLen; omega) zc (by unfold maxLen; omega) HS.out.2.1).mono ?_
        rintro e w7 ⟨rfl, hbn⟩
        have HBw7 := Lib.hid (Below.trans HBw6.out (hbn.mono HBw6.out.size))
        clear hbn k0 k1 k2 k3 k4 k5 y1 y2 y3 z1 z2 z3 zc
        have hs3 := HS.out.2.2
        rw [HM.out] at hs3
        have HS3 := Lib.hid hs3
        clear hs3
        obtain ⟨⟨y1, y2, y3⟩, z1, z2, z3, zc⟩ := HBY.out w7 HBw7.out
        have k0 : World.cell? w7 ⟨w3.heap.size, 0, none⟩ = some (.slice A1 l1.length c1) := y1.cell 0
        have k1 : World.cell? w7 ⟨w3.heap.size, 1, none⟩ = some (.int .i64 m1) := y1.cell 1
        have k2 : World.cell? w7 ⟨w3.heap.size + 1, 0, none⟩ = some (.slice A2 l2.length c2) := y2.cell 0
        have k3 : World.cell? w7 ⟨w3.heap.size + 1, 1, none⟩ = some (.int .i64 m2) := y2.cell 1
        have k4 : World.cell? w7 ⟨w5.heap.size, 0, none⟩ = some (.slice A3 L.length c3) := y3.cell 0
        have k5 : World.cell? w7 ⟨w5.heap.size, 1, none⟩ = some (.int .i64 M) := y3.cell 1
        go_wp2_with fail
        refine (fsum_any L M _ q _ (a * p1 + b * p2) 0 _ z3 (by unfold maxLen; omega) zc (by unfold maxLen; omega) HS3.out).mono ?_
        rintro e w8 ⟨rfl, hbn⟩
        have HBw8 := Lib.hid (Below.trans HBw7.out (hbn.mono HBw7.out.size))
        clear hbn k0 k1 k2 k3 k4 k5 y1 y2 y3 z1 z2 z3 zc
        have hm1 := Fa.mul_in (x := a) (y := p1) (by omega) (by omega)
        have hm2 := Fa.mul_in (x := b) (y := p2) (by omega) (by omega)
        have hw1 : IntKind.i64.wrap (a * p1) = a * p1 := IntWalk.i64_in _ (by omega)
        have hw2 : IntKind.i64.wrap (b * p2) = b * p2 := IntWalk.i64_in _ (by omega)
        have hw3 : IntKind.i64.wrap (a * p1 + b * p2) = a * p1 + b * p2 := IntWalk.i64_in _ (by omega)
        have hh1 := Fa.holds_is HS.out.1
        have hh2 := Fa.holds_is HS.out.2.1
        have hh3 := Fa.holds_is HS3.out
        have hle : p1 ≤ m1 → p2 ≤ m2 → a * p1 + b * p2 ≤ M := fun h1 h2 => by rw [← HM.out]; exact Fa.sums_holds HA.out.1.1 HA.out.2.1 h1 h2
        clear hm1 hm2
        have HH := Lib.hid (And.intro hh1 (And.intro hh2 hh3))
        clear hh1 hh2 hh3
        cases ht1 : decide (p1 ≤ m1)
        · obtain ⟨⟨y1, y2, y3⟩, z1, z2, z3, zc⟩ := HBY.out w8 HBw8.out
          have k0 : World.cell? w8 ⟨w3.heap.size, 0, none⟩ = some (.slice A1 l1.length c1) := y1.cell 0
          have k1 : World.cell? w8 ⟨w3.heap.size, 1, none⟩ = some (.int .i64 m1) := y1.cell 1
          have k2 : World.cell? w8 ⟨w3.heap.size + 1, 0, none⟩ = some (.slice A2 l2.length c2) := y2.cell 0
          have k3 : World.cell? w8 ⟨w3.heap.size + 1, 1, none⟩ = some (.int .i64 m2) := y2.cell 1
          have k4 : World.cell? w8 ⟨w5.heap.size, 0, none⟩ = some (.slice A3 L.length c3) := y3.cell 0
          have k5 : World.cell? w8 ⟨w5.heap.size, 1, none⟩ = some (.int .i64 M) := y3.cell 1
          go_wp2_with fail
          refine (fholds_any l1 m1 _ q _ false _ z1 (by have := HF1.out.len; unfold maxLen; omega) zc (by unfold maxLen; omega) (HH.out.1.trans ht1)).mono ?_
          rintro e w10 ⟨rfl, hbn⟩
          have HBw10 := Lib.hid (Below.trans HBw8.out (hbn.mono HBw8.out.size))
          clear hbn k0 k1 k2 k3 k4 k5 y1 y2 y3 z1 z2 z3 zc
          go_wp2_with fail
          refine (awake_any _).mono ?_
          rintro e w9 ⟨rfl, hbn⟩
          have HZ := Lib.hid (Below.trans HBw10.out (hbn.mono HBw10.out.size))
          clear hbn
          go_wp2
          go_ret
          exact ⟨rfl, HGL.out _ HZ.out⟩
        · obtain ⟨⟨y1, y2, y3⟩, z1, z2, z3, zc⟩ := HBY.out w8 HBw8.out
          have k0 : World.cell? w8 ⟨w3.heap.size, 0, none⟩ = some (.slice A1 l1.length c1) := y1.cell 0
          have k1 : World.cell? w8 ⟨w3.heap.size, 1, none⟩ = some (.int .i64 m1) := y1.cell 1
          have k2 : World.cell? w8 ⟨w3.heap.size + 1, 0, none⟩ = some (.slice A2 l2.length c2) := y2.cell 0
          have k3 : World.cell? w8 ⟨w3.heap.size + 1, 1, none⟩ = some (.int .i64 m2) := y2.cell 1
          have k4 : World.cell? w8 ⟨w5.heap.size, 0, none⟩ = some (.slice A3 L.length c3) := y3.cell 0
          have k5 : World.cell? w8 ⟨w5.heap.size, 1, none⟩ = some (.int .i64 M) := y3.cell 1
          go_wp2_with fail
          refine (fholds_any l1 m1 _ q _ true _ z1 (by have := HF1.out.len; unfold maxLen; omega) zc (by unfold maxLen; omega) (HH.out.1.trans ht1)).mono ?_
          rintro e w10 ⟨rfl, hbn⟩
          have HBw10 := Lib.hid (Below.trans HBw8.out (hbn.mono HBw8.out.size))
          clear hbn k0 k1 k2 k3 k4 k5 y1 y2 y3 z1 z2 z3 zc
          cases ht2 : decide (p2 ≤ m2)
          · obtain ⟨⟨y1, y2, y3⟩, z1, z2, z3, zc⟩ := HBY.out w10 HBw10.out
            have k0 : World.cell? w10 ⟨w3.heap.size, 0, none⟩ = some (.slice A1 l1.length c1) := y1.cell 0
            have k1 : World.cell? w10 ⟨w3.heap.size, 1, none⟩ = some (.int .i64 m1) := y1.cell 1
            have k2 : World.cell? w10 ⟨w3.heap.size + 1, 0, none⟩ = some (.slice A2 l2.length c2) := y2.cell 0
            have k3 : World.cell? w10 ⟨w3.heap.size + 1, 1, none⟩ = some (.int .i64 m2) := y2.cell 1
            have k4 : World.cell? w10 ⟨w5.heap.size, 0, none⟩ = some (.slice A3 L.length c3) := y3.cell 0
            have k5 : World.cell? w10 ⟨w5.heap.size, 1, none⟩ = some (.int .i64 M) := y3.cell 1
            go_wp2_with fail
            refine (fholds_any l2 m2 _ q _ false _ z2 (by have := H3.out.1.len; unfold maxLen; omega) zc (by unfold maxLen; omega) (HH.out.2.1.trans ht2)).mono ?_
            rintro e w11 ⟨rfl, hbn⟩
            have HBw11 := Lib.hid (Below.trans HBw10.out (hbn.mono HBw10.out.size))
            clear hbn k0 k1 k2 k3 k4 k5 y1 y2 y3 z1 z2 z3 zc
            go_wp2_with fail
            refine (awake_any _).mono ?_
            rintro e w9 ⟨rfl, hbn⟩
            have HZ := Lib.hid (Below.trans HBw11.out (hbn.mono HBw11.out.size))
            clear hbn
            go_wp2
            go_ret
            exact ⟨rfl, HGL.out _ HZ.out⟩
          · obtain ⟨⟨y1, y2, y3⟩, z1, z2, z3, zc⟩ := HBY.out w10 HBw10.out
            have k0 : World.cell? w10 ⟨w3.heap.size, 0, none⟩ = some (.slice A1 l1.length c1) := y1.cell 0
            have k1 : World.cell? w10 ⟨w3.heap.size, 1, none⟩ = some (.int .i64 m1) := y1.cell 1
            have k2 : World.cell? w10 ⟨w3.heap.size + 1, 0, none⟩ = some (.slice A2 l2.length c2) := y2.cell 0
            have k3 : World.cell? w10 ⟨w3.heap.size + 1, 1, none⟩ = some (.int .i64 m2) := y2.cell 1
            have k4 : World.cell? w10 ⟨w5.heap.size, 0, none⟩ = some (.slice A3 L.length c3) := y3.cell 0
            have k5 : World.cell? w10 ⟨w5.heap.size, 1, none⟩ = some (.int .i64 M) := y3.cell 1
            go_wp2_with fail
            refine (fholds_any l2 m2 _ q _ true _ z2 (by have := H3.out.1.len; unfold maxLen; omega) zc (by unfold maxLen; omega) (HH.out.2.1.trans ht2)).mono ?_
            rintro e w11 ⟨rfl, hbn⟩
            have HBw11 := Lib.hid (Below.trans HBw10.out (hbn.mono HBw10.out.size))
            clear hbn k0 k1 k2 k3 k4 k5 y1 y2 y3 z1 z2 z3 zc
            have ht3 : decide (a * p1 + b * p2 ≤ M) = true := by simp at ht1 ht2; simp; exact hle ht1 ht2
            obtain ⟨⟨y1, y2, y3⟩, z1, z2, z3, zc⟩ := HBY.out w11 HBw11.out
            have k0 : World.cell? w11 ⟨w3.heap.size, 0, none⟩ = some (.slice A1 l1.length c1) := y1.cell 0
            have k1 : World.cell? w11 ⟨w3.heap.size, 1, none⟩ = some (.int .i64 m1) := y1.cell 1
            have k2 : World.cell? w11 ⟨w3.heap.size + 1, 0, none⟩ = some (.slice A2 l2.length c2) := y2.cell 0
            have k3 : World.cell? w11 ⟨w3.heap.size + 1, 1, none⟩ = some (.int .i64 m2) := y2.cell 1
            have k4 : World.cell? w11 ⟨w5.heap.size, 0, none⟩ = some (.slice A3 L.length c3) := y3.cell 0
            have k5 : World.cell? w11 ⟨w5.heap.size, 1, none⟩ = some (.int .i64 M) := y3.cell 1
            go_wp2_with fail
            refine (fholds_any L M _ q _ true _ z3 (by unfold maxLen; omega) zc (by unfold maxLen; omega) (HH.out.2.2.trans ht3)).mono ?_
            rintro e w12 ⟨rfl, hbn⟩
            have HBw12 := Lib.hid (Below.trans HBw11.out (hbn.mono HBw11.out.size))
            clear hbn k0 k1 k2 k3 k4 k5 y1 y2 y3 z1 z2 z3 zc
            go_wp2_with fail
            refine (awake_any _).mono ?_
            rintro e w9 ⟨rfl, hbn⟩
            have HZ := Lib.hid (Below.trans HBw12.out (hbn.mono HBw12.out.size))
            clear hbn
            go_wp2
            go_ret
            exact ⟨rfl, HGL.out _ HZ.out⟩
end Go.Proofs.Ytpinncjnfbebkaa
