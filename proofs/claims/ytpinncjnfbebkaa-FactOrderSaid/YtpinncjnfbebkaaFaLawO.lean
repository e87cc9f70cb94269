/- The walk of the law FactOrder: it answers true. -/
import Derived.Test.YtpinncjnfbebkaaFaLawG
namespace Go.Proofs.Ytpinncjnfbebkaa
open Go.RowKit
set_option linter.unusedVariables false
set_option linter.unusedSimpArgs false
attribute [local go_sem] y_undef
namespace Fa
theorem rot_is (l : Tms) (t : Nat) (d : Int × Int) : (List.range l.length).map (fun i => l.getD ((i + t) % l.length) d) = l.drop (t % l.length) ++ l.take (t % l.length) := by
  obtain ⟨n, hn⟩ : ∃ n, l.length = n := ⟨_, rfl⟩
  rw [hn]
  rcases Nat.eq_zero_or_pos n with h0 | h0
  · have : l = [] := List.eq_nil_of_length_eq_zero (by omega)
    subst this
    subst h0
    simp
  · have hj : t % n < n := Nat.mod_lt _ h0
    have hm : ∀ i, (i + t) % n = (i + t % n) % n := fun i => by simp
    obtain ⟨j, hj'⟩ : ∃ j, t % n = j := ⟨_, rfl⟩
    rw [hj'] at hj ⊢
    apply List.ext_getElem
    · simp; omega
    · intro i h1 h2
      have hi : i < n := by simpa using h1
      simp only [List.getElem_map, List.getElem_range]
      rw [hm i, hj']
      by_cases h : i < n - j
      · rw [List.getElem_append_left (by simp; omega), List.getElem_drop, Nat.mod_eq_of_lt (by omega)]
        simp [List.getD, List.getElem?_eq_getElem (show j + i < l.length by omega), Nat.add_comm]
      · rw [List.getElem_append_right (by simp; omega), List.getElem_take]
        have e : (i + j) % n = i - (n - j) := by
          rw [Nat.mod_eq_sub_mod (by omega), Nat.mod_eq_of_lt (by omega)]
          omega
        rw [e]
        simp [List.getD, List.getElem?_eq_getElem (show i - (n - j) < l.length by omega), hn]
theorem canc_step (l : Tms) (k : Nat) (hk : k < l.length) : canc (l.take (k + 1)) = canc (l.take k) ++ [l.getD k (0, 0), ((l.getD k (0, 0)).1, -(l.getD k (0, 0)).2)] := by
  unfold canc
  rw [List.take_add_one, List.flatMap_append]
  simp [List.getElem?_eq_getElem hk, List.getD]
end Fa
/-- A row in the making behind a world that stays. -/
def Bw (W : World) (T : TypeId) (sz : Nat) (x : Value) (n : Nat) (xs : List Value) (u : World) : Prop := Below W.heap.size W u ∧ u.ownsRow W.heap.size T sz x n xs
section
variable {W u u' : World} {n sz m : Nat} {x : Value} {T : TypeId} {xs ys : List Value}
theorem Bw.below (h : Bw W T sz x n xs u) (hb : Below u.heap.size u u') : Bw W T sz x n xs u' := ⟨h.1.trans (hb.mono h.1.size), own_below h.2 hb⟩
theorem Bw.alloc (h : Bw W T sz x n xs u) (o : Obj) : Bw W T sz x n xs (u.alloc o) := h.below ((Below.refl _ _).alloc (Nat.le_refl _) o)
theorem Bw.app (h : Bw W T sz x n xs u) {x' : Value} (hown : u'.ownsRow W.heap.size T sz x' (n + m) (xs ++ ys)) (hg : u.grownBy u' x.ownBlock) : Bw W T sz x' (n + m) (xs ++ ys) u' := ⟨h.1.grown hg h.1.size (fun k hk => (h.2.lt k hk).1), hown⟩
theorem Bw.start (W : World) (T : TypeId) (sz : Nat) : Bw W T sz (.slice none 0 0) 0 [] W := ⟨Below.refl _ _, World.ownsRow_nil _ _ _ _⟩
end
set_option maxRecDepth 100000 in
set_option maxHeartbeats 16000000 in
theorem order_law (v : Value) (zs : List Int) (turn most : Int) (w : World) (hv : IntsIn .i64 w v zs) (hvb : ∀ a n c, v = .slice (some a) n c → a.block < w.heap.size) (hm : zs.length ≤ maxLen) (hz : ∀ z ∈ zs, -9223372036854775808 ≤ z ∧ z ≤ 9223372036854775807)
    (hturn : 0 ≤ turn ∧ turn ≤ 255) (hmost : -32768 ≤ most ∧ most ≤ 32767) :
    Calls Try.prog 7 #[v, .int .u8 turn, .int .i16 most] w fun e w' => e = .returned (.bool true) ∧ Below w.heap.size w w' := by
  cases hfew : decide (zs.length ≤ 400)
  · have HF := Lib.hid (few_any v zs false w hv hm hfew)
    clear hv hvb hm hz hfew
    go_enter Try.func7, Try.ntmps7
    go_wp2_with fail
    refine HF.out.mono ?_
    rintro e w' ⟨rfl, rfl⟩
    go_wp2_with fail
    refine (awake_any _).mono ?_
    rintro e w5 ⟨rfl, hb5⟩
    go_wp2
    go_ret
    exact ⟨rfl, hb5⟩
  · have HF := Lib.hid (few_any v zs true w hv hm hfew)
    have HN := Lib.hid (newdeck_any v zs w hv hvb hm hz)
    clear hv hvb hm hz hfew
    have HA := Lib.hid (And.intro hturn hmost)
    obtain ⟨iT, hi0, hz0, hz1, hz2⟩ := info_parts Try.infoTm
    have HIT := Lib.hid (And.intro hi0 (And.intro hz0 (And.intro hz1 hz2)))
    clear hi0 hz0 hz1 hz2
    go_enter Try.func7, Try.ntmps7
    go_wp2_with fail
    refine HF.out.mono ?_
    rintro e w' ⟨rfl, rfl⟩
    go_wp2_with fail
    refine HN.out.mono ?_
    rintro e w1 ⟨rfl, hd, hb1⟩
    have HB1 := Lib.hid hb1
    obtain ⟨D, hD⟩ : ∃ D, w.heap.size = D := ⟨_, rfl⟩
    have HD := Lib.hid hD
    rw [hD] at hd
    have HDk := Lib.hid hd
    simp only [hD]
    clear hd hb1 HF HN hD
    go_wp2_with fail
    refine (next_any 30 D v zs w1 HDk.out (by omega)).mono ?_
    rintro e w2 ⟨r, rfl, hr0, hr1, hd2, hg2⟩
    obtain ⟨i0, rfl⟩ := Int.eq_ofNat_of_zero_le hr0
    have hi0 : i0 ≤ 29 := by omega
    have HC0 := Lib.hid (show Cn w2 D v zs 36 2 (.slice none 0 0) 0 [] w2 from Cn.start hd2 hd2.lt _ _)
    have HG2 := Lib.hid (show Below D w1 w2 from grown_to hg2 (Nat.le_refl _) (Nat.le_of_lt HDk.out.lt))
    clear hd2 hg2 hr0 hr1
    go_wp2
    go_loopw [8, 10] (fun x i wr => ∃ (k : Nat) (q : Fa.Tms), i = .int .i64 k ∧ q.length + k ≤ 29 ∧ Hid ((∀ t ∈ q, (0 ≤ t.1 ∧ t.1 < 12) ∧ (-10 ≤ t.2 ∧ t.2 ≤ 10)) ∧ Cn w2 D v zs 36 2 x q.length (q.flatMap prCells) wr)) (fun _ i _ => (intOf i).toNat)
    case atStart => exact ⟨i0, [], rfl, by simp; omega, Lib.hid ⟨fun t ht => by simp at ht, HC0.out⟩⟩
    case round =>
      clear HC0
      obtain ⟨k, q, rfl, hkq, HK⟩ := hrel
      by_cases hlt : 0 < k
      · have hlt' : (0 : Int) < k := by omega
        go_wp2_with fail
        refine (next_any 12 D v zs _ HK.out.2.1 (by omega)).mono ?_
        rintro e w3 ⟨r1, rfl, hr0, hr1, hd3, hg3⟩
        have HC1 := Lib.hid (HK.out.2.next hd3 hg3)
        have hr12 : 0 ≤ r1 ∧ r1 < 12 := by omega
        clear hd3 hg3 hr0 hr1
        go_wp2_with fail
        refine (next_any 21 D v zs _ HC1.out.1 (by omega)).mono ?_
        rintro e w4 ⟨r2, rfl, hr0, hr1, hd3, hg3⟩
        have HC := Lib.hid (HC1.out.next hd3 hg3)
        have hr21 : 0 ≤ r2 ∧ r2 ≤ 20 := by omega
        have hw : IntKind.i64.wrap (r2 - 10) = r2 - 10 := IntWalk.i64_in _ (by omega)
        clear hd3 hg3 hr0 hr1 HC1
        have HNa := Lib.hid (show ∀ i u, (prCells (r1, r2 - 10))[i]? = some u → (w4.alloc (.cells #[.int .i64 r1, .int .i64 (r2 - 10)] 36)).cell? ((⟨w4.heap.size, 0, none⟩ : Addr).add i) = some u from World.news_of_block (cs := #[.int .i64 r1, .int .i64 (r2 - 10)]) (heap_alloc_new w4 _))
        have HBa := Lib.hid (show w2.heap.size ≤ (w4.alloc (.cells #[.int .i64 r1, .int .i64 (r2 - 10)] 36)).heap.size by have := HC.out.size; simp; omega)
        go_wp2_with (at_builtin; refine wpList_append_own_at _ rfl (.tmp 34) (.tmp 41) 28 rfl w2.heap.size 36 iT _ 2 16 Try.underlying28 HIT.out.1 HIT.out.2.1 HIT.out.2.2.1 HIT.out.2.2.2 rfl (by decide) u8 q.length (q.flatMap prCells) rfl (HC.out.alloc _).2.2.2 ⟨w4.heap.size, 0, none⟩ 1 1 (prCells (r1, r2 - 10)) rfl rfl HNa.out (by intro u hu; simp [prCells] at hu; rcases hu with rfl | rfl <;> rfl) (by unfold maxLen; omega) (by omega) HBa.out ?_; intro v' w' hown hgr _ _; have HCa := Lib.hid ((HC.out.alloc _).app hown hgr); clear hown hgr)
        go_roundw
        case rel => exact ⟨k - 1, q ++ [(r1, r2 - 10)], by first | rfl | go_num, by simp; omega, Lib.hid ⟨fun t ht => by
          rcases List.mem_append.1 ht with h | h
          · exact HK.out.1 t h
          · obtain rfl : t = (r1, r2 - 10) := by simpa using h
            exact ⟨⟨by dsimp only; omega, by dsimp only; omega⟩, by dsimp only; omega, by dsimp only; omega⟩, by rw [List.flatMap_append]; simpa using HCa.out⟩⟩
        case measure => simp [intOf]; omega
      · have hlt' : ¬ (0 : Int) < k := by omega
        have hP : PrsIn wr u8 q := RowIn.own HK.out.2.2.2.2
        obtain ⟨A, c, hu8, hof⟩ := hP.opened
        have hq29 : q.length ≤ 29 := by omega
        obtain ⟨o1, o2, o3, o4, o5⟩ := Fa.order (l := q) (most := most) (k := turn.toNat % q.length) hq29 HK.out.1 HA.out.2
        rw [← Fa.rot_is q turn.toNat (0, 0)] at o2
        have HO := Lib.hid (And.intro o1 (And.intro o2 (And.intro o3 (And.intro o4 o5))))
        have HP := Lib.hid hP
        have HOf := Lib.hid hof
        have HGL := Lib.hid (show Below D w wr from ((HD.out ▸ HB1.out : Below D w w1).trans HG2.out).trans (grown_to HK.out.2.2.2.1 (Nat.le_refl _) (Nat.le_of_lt HK.out.2.2.1)))
        have HTm := Lib.hid HK.out.1
        have hnn : Fa.normTo q 256 = Fa.normTo q 256 := rfl
        obtain ⟨L, hL⟩ : ∃ L, Fa.normTo q 256 = L := ⟨_, rfl⟩
        have hLl : L.length ≤ 256 := by rw [← hL]; exact Fa.norm_len _ _
        rw [hL] at HO
        subst hu8
        obtain ⟨n, hn⟩ : ∃ n, q.length = n := ⟨_, rfl⟩
        have HN := Lib.hid hn
        rw [hn] at hq29 HOf HP
        obtain ⟨tn, htn⟩ := Int.eq_ofNat_of_zero_le HA.out.1.1
        have ht255 : tn ≤ 255 := by have := HA.out.1.2; omega
        have htn2 : turn.toNat = tn := by omega
        rw [htn2] at HO
        have hca : IntKind.i64.wrap turn = (tn : Int) := by rw [← htn]; exact IntWalk.i64_in _ (by omega)
        rw [hn]
        clear hP hof o1 o2 o3 o4 o5 hnn hL hn HK HG2 HDk
        have HW2 := Lib.hid (Bw.start wr 36 2)
        go_wp2
        obtain ⟨W, hW⟩ : ∃ W, W = wr := ⟨_, rfl⟩
        subst hW
        go_loopw [9, 11] (fun x i wr => ∃ k : Nat, k ≤ n ∧ i = .int .i64 k ∧ Hid (Bw W 36 2 x k (((List.range k).map fun i => q.getD ((i + tn) % n) (0, 0)).flatMap prCells) wr)) (fun _ i _ => n - (intOf i).toNat)
        case atStart => exact ⟨0, Nat.zero_le _, rfl, HW2⟩
        case round =>
          clear HW2
          obtain ⟨k, hk, rfl, HK⟩ := hrel
          by_cases hlt2 : k < n
          · have hlt2' : (k : Int) < n := by omega
            obtain ⟨j, hj⟩ : ∃ j, (k + tn) % n = j := ⟨_, rfl⟩
            have hjn : j < n := by rw [← hj]; exact Nat.mod_lt _ (by omega)
            have hjn' : (0 : Int) ≤ j ∧ (j : Int) < n := by omega
            have hnz : ¬ (n : Int) = 0 := by omega
            have hmod : ((k : Int) + (tn : Int)).tmod (n : Int) = (j : Int) := by
              rw [Int.tmod_eq_emod_of_nonneg (by omega), ← hj]
              simp
            have hwr1 : IntKind.i64.wrap ((k : Int) + (tn : Int)) = (k : Int) + tn := IntWalk.i64_in _ (by omega)
            have hwr2 : IntKind.i64.wrap (j : Int) = j := IntWalk.i64_in _ (by omega)
            obtain ⟨b, off, rfl, hbb, hx, hy⟩ := HOf.out j hjn
            replace hx := (HK.out.1.cell (p := ⟨b, off + j * 2, none⟩) hbb).trans hx
            replace hy := (HK.out.1.cell (p := ⟨b, off + j * 2 + 1, none⟩) hbb).trans hy
            have HJ := Lib.hid hj
            obtain ⟨x0, hx0⟩ : ∃ x, (q.getD j (0, 0)).1 = x := ⟨_, rfl⟩
            obtain ⟨y0, hy0⟩ : ∃ y, (q.getD j (0, 0)).2 = y := ⟨_, rfl⟩
            have HXY := Lib.hid (show q.getD j (0, 0) = (x0, y0) from Prod.ext hx0 hy0)
            rw [hx0] at hx
            rw [hy0] at hy
            clear hx0 hy0 hj
            have HNa := Lib.hid (show ∀ i u, (prCells (x0, y0))[i]? = some u → (wr.alloc (.cells #[.int .i64 x0, .int .i64 y0] 36)).cell? ((⟨wr.heap.size, 0, none⟩ : Addr).add i) = some u from World.news_of_block (cs := #[.int .i64 x0, .int .i64 y0]) (heap_alloc_new wr _))
            have HBa := Lib.hid (show W.heap.size ≤ (wr.alloc (.cells #[.int .i64 x0, .int .i64 y0] 36)).heap.size by have := HK.out.1.size; simp; omega)
            go_wp2_with (at_builtin; refine wpList_append_own_at _ rfl (.tmp 49) (.tmp 60) 28 rfl W.heap.size 36 iT _ 2 16 Try.underlying28 HIT.out.1 HIT.out.2.1 HIT.out.2.2.1 HIT.out.2.2.2 rfl (by decide) u9 k (((List.range k).map fun i => q.getD ((i + tn) % n) (0, 0)).flatMap prCells) rfl (HK.out.alloc _).2 ⟨wr.heap.size, 0, none⟩ 1 1 (prCells (x0, y0)) rfl rfl HNa.out (by intro u hu; simp [prCells] at hu; rcases hu with rfl | rfl <;> rfl) (by unfold maxLen; omega) (by omega) HBa.out ?_; intro v' w' hown hgr _ _; have HCa := Lib.hid ((HK.out.alloc _).app hown hgr); clear hown hgr)
            go_roundw
            case rel => exact ⟨k + 1, by omega, by first | rfl | go_num, Lib.hid (by
              rw [List.range_succ, List.map_append, List.flatMap_append]
              simp only [List.map_cons, List.map_nil, List.flatMap_cons, List.flatMap_nil, List.append_nil]
              rw [HJ.out, HXY.out]
              exact HCa.out)⟩
            case measure => simp [intOf]; omega
          · have hlt2' : ¬ (k : Int) < n := by omega
            have hkn : k = n := by omega
            obtain ⟨R, hR⟩ : ∃ R, (List.range n).map (fun i => q.getD ((i + tn) % n) (0, 0)) = R := ⟨_, rfl⟩
            have hRl : R.length = n := by rw [← hR]; simp
            have hbP : PrsIn wr u9 R := by
              have h := HK.out.2
              rw [hkn, hR] at h
              unfold PrsIn
              rw [hRl]
              exact RowIn.own h
            have HR1 := Lib.hid (And.intro HK.out.1 (And.intro hbP (HP.out.below HK.out.1)))
            have HO2 := Lib.hid (show Fa.ofR R most = (L, most, 0) from by rw [← hR]; have h := HO.out.2.1; rw [HN.out] at h; exact h)
            have HW3 := Lib.hid (Bw.start wr 36 2)
            clear hkn hR hbP HK hlt2 hk
            go_wp2
            obtain ⟨X, hX⟩ : ∃ X, X = wr := ⟨_, rfl⟩
            subst hX
            go_loopw [12, 13] (fun x i wr => ∃ k : Nat, k ≤ n ∧ i = .int .i64 k ∧ Hid (Bw X 36 2 x (2 * k) ((Fa.canc (q.take k)).flatMap prCells) wr)) (fun _ i _ => n - (intOf i).toNat)
            case atStart => exact ⟨0, Nat.zero_le _, rfl, by simpa [Fa.canc] using HW3⟩
            case round =>
              clear HW3
              obtain ⟨k, hk, rfl, HK⟩ := hrel
              have hXW := HK.out.1
              by_cases hlt3 : k < n
              · have hlt3' : (k : Int) < n := by omega
                obtain ⟨b, off, rfl, hbb, hx, hy⟩ := HOf.out k hlt3
                have hbW := HR1.out.1.trans (hXW.mono HR1.out.1.size)
                replace hx := (hbW.cell (p := ⟨b, off + k * 2, none⟩) hbb).trans hx
                replace hy := (hbW.cell (p := ⟨b, off + k * 2 + 1, none⟩) hbb).trans hy
                have hcs := Fa.canc_step q k (by have := HN.out; omega)
                have htm := (HTm.out (q.getD k (0, 0)) (Fa.getD_in (by have := HN.out; omega) _)).2
                obtain ⟨⟨x0, y0⟩, hxy⟩ : ∃ p, q.getD k (0, 0) = p := ⟨_, rfl⟩
                rw [hxy] at hx hy hcs htm
                simp only at hx hy hcs htm
                have hwn : IntKind.i64.wrap (-y0) = -y0 := IntWalk.i64_in _ (by omega)
                have HCS := Lib.hid hcs
                clear hcs htm hxy hbW
                have HAd := Lib.hid ((HK.out.below ((Below.refl _ _).alloc (Nat.le_refl _) (.cells #[.int .i64 x0, .int .i64 y0, .int .i64 x0, .int .i64 (-y0)] 36))).below (below_drewN _ _ 1))
                have HQn := Lib.hid (show ∀ i u, (prCells (x0, y0) ++ prCells (x0, -y0))[i]? = some u → (wr.alloc (.cells #[.int .i64 x0, .int .i64 y0, .int .i64 x0, .int .i64 (-y0)] 36)).drew.cell? ((⟨wr.heap.size, 0, none⟩ : Addr).add i) = some u from
                  World.news_of_block (w := (wr.alloc (.cells #[.int .i64 x0, .int .i64 y0, .int .i64 x0, .int .i64 (-y0)] 36)).drew) (cs := #[.int .i64 x0, .int .i64 y0, .int .i64 x0, .int .i64 (-y0)]) (heap_alloc_new wr _))
                have HB8 := Lib.hid (show X.heap.size ≤ (wr.alloc (.cells #[.int .i64 x0, .int .i64 y0, .int .i64 x0, .int .i64 (-y0)] 36)).drew.heap.size by have := hXW.size; simp; omega)
                have HC8 := Lib.hid (show ∀ u ∈ prCells (x0, y0) ++ prCells (x0, -y0), u.oneCell' = true by intro u hu; simp [prCells] at hu; rcases hu with rfl | rfl | rfl | rfl <;> rfl)
                go_upto_region 17 with fail
                go_region_law (refine step_append_lies _ rfl (.tmp 68) (.tmp 85) 28 rfl X.heap.size 36 iT _ 2 16 Try.underlying28 HIT.out.1 HIT.out.2.1 HIT.out.2.2.1 HIT.out.2.2.2 rfl (by decide) u12 (2 * k) ((Fa.canc (q.take k)).flatMap prCells) (by simp [Act.eval]) HAd.out.2 ⟨wr.heap.size, 0, none⟩ 2 2 (prCells (x0, y0) ++ prCells (x0, -y0)) (by simp [Act.eval]) rfl HQn.out HC8.out (by omega) (by unfold maxLen; omega) (by omega) HB8.out _ rfl ?_; intro g8 cap W8 hown8 hgrow8 _ _; have HR8 := Lib.hid (Bw.app HAd.out hown8 hgrow8); clear hown8 hgrow8)
                all_goals
                  go_wp2
                  go_roundw
                  case rel => exact ⟨k + 1, by omega, by first | rfl | go_num, Lib.hid (by
                    rw [HCS.out, List.flatMap_append, Nat.mul_add]
                    simp only [List.flatMap_cons, List.flatMap_nil, List.append_nil]
                    exact HR8.out)⟩
                  case measure => simp [intOf]; omega
              · have hlt3' : ¬ (k : Int) < n := by omega
                have hkn : k = n := by omega
                have hcP : PrsIn wr u12 (Fa.canc q) := by
                  have h := HK.out.2
                  rw [hkn, List.take_of_length_le (by have := HN.out; omega)] at h
                  unfold PrsIn
                  rw [Fa.canc_len, HN.out]
                  exact RowIn.own h
                have HG3 := Lib.hid (HR1.out.1.trans (hXW.mono HR1.out.1.size))
                have HQ3 := Lib.hid (And.intro (HR1.out.2.2.below hXW) (And.intro (HR1.out.2.1.below hXW) hcP))
                have hcm : IntKind.i64.wrap most = most := IntWalk.i64_in _ (by have := HA.out.2; omega)
                have hlq : q.length ≤ maxLen := by have := HN.out; unfold maxLen; omega
                have hlR : R.length ≤ maxLen := by unfold maxLen; omega
                have hlL : L.length ≤ maxLen := by unfold maxLen; omega
                have hlC : (Fa.canc q).length ≤ maxLen := by rw [Fa.canc_len, HN.out]; unfold maxLen; omega
                have HLn := Lib.hid (And.intro hlq (And.intro hlR (And.intro hlL hlC)))
                clear hkn hcP HR1 HK hXW hlq hlR hlL hlC hlt3 hk HP HOf HTm
                go_wp2_with fail
                refine (fof_any q most _ _ wr HQ3.out.1 HLn.out.1 HO.out.1).mono ?_
                rintro e w5 ⟨x5, he, ho, hb5⟩
                simp only at he ho
                subst he
                obtain ⟨A5, c5, rfl, _⟩ := RowIn.own ho
                have hal : Below w5.heap.size w5 (w5.alloc (.cells #[.slice A5 L.length c5, .int .i64 most] 30)) := (Below.refl _ _).alloc (Nat.le_refl _) _
                have H5 := Lib.hid (And.intro (hb5.trans (hal.mono hb5.size)) (And.intro (show Bk (w5.alloc (.cells #[.slice A5 L.length c5, .int .i64 most] 30)) w5.heap.size 30 #[.slice A5 L.length c5, .int .i64 most] from Bk.new _ _ _) ((RowIn.own ho : PrsIn w5 (.slice A5 L.length c5) L).below hal)))
                clear ho hb5 hal
                go_wp2_with fail
                refine (fof_any R most _ _ (w5.alloc (.cells #[.slice A5 L.length c5, .int .i64 most] 30)) (HQ3.out.2.1.below H5.out.1) HLn.out.2.1 HO2.out).mono ?_
                rintro e w6 ⟨x6, he, ho, hb6⟩
                simp only at he ho
                subst he
                obtain ⟨A6, c6, rfl, _⟩ := RowIn.own ho
                have hal : Below w6.heap.size w6 (w6.alloc (.cells #[.slice A6 L.length c6, .int .i64 most] 30)) := (Below.refl _ _).alloc (Nat.le_refl _) _
                have hst := hb6.trans (hal.mono hb6.size)
                have H6 := Lib.hid (And.intro (H5.out.1.trans (hst.mono H5.out.1.size)) (And.intro (And.intro (H5.out.2.1.below hst) (show Bk (w6.alloc (.cells #[.slice A6 L.length c6, .int .i64 most] 30)) w6.heap.size 30 #[.slice A6 L.length c6, .int .i64 most] from Bk.new _ _ _)) (And.intro (H5.out.2.2.below hst) ((RowIn.own ho : PrsIn w6 (.slice A6 L.length c6) L).below hal))))
                have k0 : (w6.alloc (.cells #[.slice A6 L.length c6, .int .i64 most] 30)).cell? ⟨w5.heap.size, 0, none⟩ = some (.slice A5 L.length c5) := H6.out.2.1.1.cell 0
                have k1 : (w6.alloc (.cells #[.slice A6 L.length c6, .int .i64 most] 30)).cell? ⟨w5.heap.size, 1, none⟩ = some (.int .i64 most) := H6.out.2.1.1.cell 1
                clear ho hb6 hal hst H5
                go_wp2_with fail
                refine (fof_any L most _ _ (w6.alloc (.cells #[.slice A6 L.length c6, .int .i64 most] 30)) H6.out.2.2.1 HLn.out.2.2.1 HO.out.2.2.1).mono ?_
                rintro e w7 ⟨x7, he, ho, hb7⟩
                simp only at he ho
                subst he
                obtain ⟨A7, c7, rfl, _⟩ := RowIn.own ho
                have hal : Below w7.heap.size w7 (w7.alloc (.cells #[.slice A7 L.length c7, .int .i64 most] 30)) := (Below.refl _ _).alloc (Nat.le_refl _) _
                have hst := hb7.trans (hal.mono hb7.size)
                have H7 := Lib.hid (And.intro (H6.out.1.trans (hst.mono H6.out.1.size)) (And.intro (And.intro (H6.out.2.1.1.below hst) (And.intro (H6.out.2.1.2.below hst) (show Bk (w7.alloc (.cells #[.slice A7 L.length c7, .int .i64 most] 30)) w7.heap.size 30 #[.slice A7 L.length c7, .int .i64 most] from Bk.new _ _ _))) (And.intro (H6.out.2.2.1.below hst) (And.intro (H6.out.2.2.2.below hst) ((RowIn.own ho : PrsIn w7 (.slice A7 L.length c7) L).below hal)))))
                clear ho hb7 hal hst H6 k0 k1
                go_wp2_with fail
                refine (fof_any (Fa.canc q) most _ _ (w7.alloc (.cells #[.slice A7 L.length c7, .int .i64 most] 30)) (HQ3.out.2.2.below H7.out.1) HLn.out.2.2.2 HO.out.2.2.2.1).mono ?_
                rintro e w8 ⟨x8, he, ho, hb8⟩
                simp only at he ho
                subst he
                obtain ⟨A8, c8, hx8, _⟩ := RowIn.own ho
                have hx8' : x8 = .slice A8 0 c8 := hx8
                subst hx8'
                have hal : Below w8.heap.size w8 (w8.alloc (.cells #[.slice A8 0 c8, .int .i64 most] 30)) := (Below.refl _ _).alloc (Nat.le_refl _) _
                have hst := hb8.trans (hal.mono hb8.size)
                have hgl := H7.out.1.trans (hst.mono H7.out.1.size)
                have hn20 : Bk (w8.alloc (.cells #[.slice A8 0 c8, .int .i64 most] 30)) w8.heap.size 30 #[.slice A8 0 c8, .int .i64 most] := Bk.new _ _ _
                have HBY := Lib.hid (show ∀ u', Bel (w8.alloc (.cells #[.slice A8 0 c8, .int .i64 most] 30)) u' → (Bk u' w5.heap.size 30 #[.slice A5 L.length c5, .int .i64 most] ∧ Bk u' w6.heap.size 30 #[.slice A6 L.length c6, .int .i64 most] ∧ Bk u' w7.heap.size 30 #[.slice A7 L.length c7, .int .i64 most] ∧ Bk u' w8.heap.size 30 #[.slice A8 0 c8, .int .i64 most]) ∧
                    PrsIn u' (.slice A5 L.length c5) L ∧ PrsIn u' (.slice A6 L.length c6) L ∧ PrsIn u' (.slice A7 L.length c7) L from fun u' hb =>
                  ⟨⟨(H7.out.2.1.1.below hst).below hb, (H7.out.2.1.2.1.below hst).below hb, (H7.out.2.1.2.2.below hst).below hb, hn20.below hb⟩, (H7.out.2.2.1.below hst).below hb, (H7.out.2.2.2.1.below hst).below hb, (H7.out.2.2.2.2.below hst).below hb⟩)
                have HGU := Lib.hid (show ∀ u', Bel (w8.alloc (.cells #[.slice A8 0 c8, .int .i64 most] 30)) u' → Below w.heap.size w u' from fun u' hb => by
                  have h0 := HGL.out.trans (HG3.out.mono (by have := HGL.out.size; have := HB1.out.size; have := HD.out; omega))
                  have h1 := h0.size
                  have h2 := hgl.size
                  have h4 := HD.out
                  have h5 := HB1.out.size
                  rw [HD.out]
                  exact (h0.trans (hgl.mono (by omega))).trans (Below.mono hb (by omega)))
                clear ho hb8 hal hst hgl hn20 H7 HQ3 HG3 HGL
                have b0 : Bel (w8.alloc (.cells #[.slice A8 0 c8, .int .i64 most] 30)) (w8.alloc (.cells #[.slice A8 0 c8, .int .i64 most] 30)) := Below.refl _ _
                obtain ⟨⟨y1, y2, y3, y4⟩, z1, z2, z3⟩ := HBY.out (w8.alloc (.cells #[.slice A8 0 c8, .int .i64 most] 30)) b0
                have k0 : World.cell? (w8.alloc (.cells #[.slice A8 0 c8, .int .i64 most] 30)) ⟨w5.heap.size, 0, none⟩ = some (.slice A5 L.length c5) := y1.cell 0
                have k1 : World.cell? (w8.alloc (.cells #[.slice A8 0 c8, .int .i64 most] 30)) ⟨w5.heap.size, 1, none⟩ = some (.int .i64 most) := y1.cell 1
                have k2 : World.cell? (w8.alloc (.cells #[.slice A8 0 c8, .int .i64 most] 30)) ⟨w6.heap.size, 0, none⟩ = some (.slice A6 L.length c6) := y2.cell 0
                have k3 : World.cell? (w8.alloc (.cells #[.slice A8 0 c8, .int .i64 most] 30)) ⟨w6.heap.size, 1, none⟩ = some (.int .i64 most) := y2.cell 1
                have k4 : World.cell? (w8.alloc (.cells #[.slice A8 0 c8, .int .i64 most] 30)) ⟨w7.heap.size, 0, none⟩ = some (.slice A7 L.length c7) := y3.cell 0
                have k5 : World.cell? (w8.alloc (.cells #[.slice A8 0 c8, .int .i64 most] 30)) ⟨w7.heap.size, 1, none⟩ = some (.int .i64 most) := y3.cell 1
                have k6 : World.cell? (w8.alloc (.cells #[.slice A8 0 c8, .int .i64 most] 30)) ⟨w8.heap.size, 0, none⟩ = some (.slice A8 0 c8) := y4.cell 0
                have k7 : World.cell? (w8.alloc (.cells #[.slice A8 0 c8, .int .i64 most] 30)) ⟨w8.heap.size, 1, none⟩ = some (.int .i64 most) := y4.cell 1
                go_wp2_with fail
                refine (fcheck_any L most _ 0 (w8.alloc (.cells #[.slice A8 0 c8, .int .i64 most] 30)) z1 HLn.out.2.2.1 HO.out.2.2.2.2).mono ?_
                rintro e w9 ⟨rfl, hbn⟩
                have b1 : Bel (w8.alloc (.cells #[.slice A8 0 c8, .int .i64 most] 30)) w9 := Bel.step b0 hbn
                clear hbn k0 k1 k2 k3 k4 k5 k6 k7 y1 y2 y3 y4 z1 z2 z3
                obtain ⟨⟨y1, y2, y3, y4⟩, z1, z2, z3⟩ := HBY.out w9 b1
                have k0 : World.cell? w9 ⟨w5.heap.size, 0, none⟩ = some (.slice A5 L.length c5) := y1.cell 0
                have k1 : World.cell? w9 ⟨w5.heap.size, 1, none⟩ = some (.int .i64 most) := y1.cell 1
                have k2 : World.cell? w9 ⟨w6.heap.size, 0, none⟩ = some (.slice A6 L.length c6) := y2.cell 0
                have k3 : World.cell? w9 ⟨w6.heap.size, 1, none⟩ = some (.int .i64 most) := y2.cell 1
                have k4 : World.cell? w9 ⟨w7.heap.size, 0, none⟩ = some (.slice A7 L.length c7) := y3.cell 0
                have k5 : World.cell? w9 ⟨w7.heap.size, 1, none⟩ = some (.int .i64 most) := y3.cell 1
                have k6 : World.cell? w9 ⟨w8.heap.size, 0, none⟩ = some (.slice A8 0 c8) := y4.cell 0
                have k7 : World.cell? w9 ⟨w8.heap.size, 1, none⟩ = some (.int .i64 most) := y4.cell 1
                go_wp2_with fail
                refine (rsame_any L most _ _ w9 z1 z2 HLn.out.2.2.1).mono ?_
                rintro e w10 ⟨rfl, hbn⟩
                have b2 : Bel (w8.alloc (.cells #[.slice A8 0 c8, .int .i64 most] 30)) w10 := Bel.step b1 hbn
                clear hbn k0 k1 k2 k3 k4 k5 k6 k7 y1 y2 y3 y4 z1 z2 z3
                obtain ⟨⟨y1, y2, y3, y4⟩, z1, z2, z3⟩ := HBY.out w10 b2
                have k0 : World.cell? w10 ⟨w5.heap.size, 0, none⟩ = some (.slice A5 L.length c5) := y1.cell 0
                have k1 : World.cell? w10 ⟨w5.heap.size, 1, none⟩ = some (.int .i64 most) := y1.cell 1
                have k2 : World.cell? w10 ⟨w6.heap.size, 0, none⟩ = some (.slice A6 L.length c6) := y2.cell 0
                have k3 : World.cell? w10 ⟨w6.heap.size, 1, none⟩ = some (.int .i64 most) := y2.cell 1
                have k4 : World.cell? w10 ⟨w7.heap.size, 0, none⟩ = some (.slice A7 L.length c7) := y3.cell 0
                have k5 : World.cell? w10 ⟨w7.heap.size, 1, none⟩ = some (.int .i64 most) := y3.cell 1
                have k6 : World.cell? w10 ⟨w8.heap.size, 0, none⟩ = some (.slice A8 0 c8) := y4.cell 0
                have k7 : World.cell? w10 ⟨w8.heap.size, 1, none⟩ = some (.int .i64 most) := y4.cell 1
                go_wp2_with fail
                refine (rsame_any L most _ _ w10 z1 z3 HLn.out.2.2.1).mono ?_
                rintro e w11 ⟨rfl, hbn⟩
                have b3 : Bel (w8.alloc (.cells #[.slice A8 0 c8, .int .i64 most] 30)) w11 := Bel.step b2 hbn
                clear hbn k0 k1 k2 k3 k4 k5 k6 k7 y1 y2 y3 y4 z1 z2 z3
                obtain ⟨⟨y1, y2, y3, y4⟩, z1, z2, z3⟩ := HBY.out w11 b3
                have k0 : World.cell? w11 ⟨w5.heap.size, 0, none⟩ = some (.slice A5 L.length c5) := y1.cell 0
                have k1 : World.cell? w11 ⟨w5.heap.size, 1, none⟩ = some (.int .i64 most) := y1.cell 1
                have k2 : World.cell? w11 ⟨w6.heap.size, 0, none⟩ = some (.slice A6 L.length c6) := y2.cell 0
                have k3 : World.cell? w11 ⟨w6.heap.size, 1, none⟩ = some (.int .i64 most) := y2.cell 1
                have k4 : World.cell? w11 ⟨w7.heap.size, 0, none⟩ = some (.slice A7 L.length c7) := y3.cell 0
                have k5 : World.cell? w11 ⟨w7.heap.size, 1, none⟩ = some (.int .i64 most) := y3.cell 1
                have k6 : World.cell? w11 ⟨w8.heap.size, 0, none⟩ = some (.slice A8 0 c8) := y4.cell 0
                have k7 : World.cell? w11 ⟨w8.heap.size, 1, none⟩ = some (.int .i64 most) := y4.cell 1
                go_wp2_with fail
                refine (awake_any _).mono ?_
                rintro e w12 ⟨rfl, hbn⟩
                have b4 : Bel (w8.alloc (.cells #[.slice A8 0 c8, .int .i64 most] 30)) w12 := Bel.step b3 hbn
                clear hbn k0 k1 k2 k3 k4 k5 k6 k7 y1 y2 y3 y4 z1 z2 z3
                have HZ := Lib.hid (HGU.out _ b4)
                clear b0 b1 b2 b3 b4
                go_wp2
                go_ret
                exact ⟨rfl, HZ.out⟩
end Go.Proofs.Ytpinncjnfbebkaa
