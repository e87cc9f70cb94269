/- The specification of layer 11: Add. No condition. -/
import Derived.Test.YtpinncjnfbebkaaFaOf
import Derived.Test.YtpinncjnfbebkaaFaAddM
namespace Go.Proofs.Ytpinncjnfbebkaa
open Go.RowKit
set_option linter.unusedVariables false
set_option linter.unusedSimpArgs false
attribute [local go_sem] y_undef
/-- The boxes of two facts, and the result's. -/
def Ad (w : World) (v : Value) (mf : Int) (v' : Value) (mg : Int) (u : World) : Prop :=
  Ahead 3 w u ∧ (u.cell? ⟨w.heap.size, 0, none⟩ = some v ∧ u.cell? ⟨w.heap.size, 1, none⟩ = some (.int .i64 mf)) ∧ (u.cell? ⟨w.heap.size + 1, 0, none⟩ = some v' ∧ u.cell? ⟨w.heap.size + 1, 1, none⟩ = some (.int .i64 mg)) ∧
    u.cell? ⟨w.heap.size + 1 + 1, 0, none⟩ = some (.slice none 0 0) ∧ u.cell? ⟨w.heap.size + 1 + 1, 1, none⟩ = some (.int .i64 0) ∧ ∀ o, u.frozen? ⟨w.heap.size + 1 + 1, o, none⟩ = false
theorem Ad.keep {w u u' : World} {v v' : Value} {mf mg : Int} (h : Ad w v mf v' mg u) (hb : Below (w.heap.size + 3) u u') : Ad w v mf v' mg u' := by
  obtain ⟨hA, ⟨f0, f1⟩, ⟨g0, g1⟩, r0, r1, rf⟩ := h
  refine ⟨⟨hA.1.trans (hb.mono (by omega)), by have := hA.2; have := hb.size; omega⟩, ⟨?_, ?_⟩, ⟨?_, ?_⟩, ?_, ?_, fun o => ?_⟩
  · exact (hb.cell (p := ⟨w.heap.size, 0, none⟩) (by show w.heap.size < _; omega)).trans f0
  · exact (hb.cell (p := ⟨w.heap.size, 1, none⟩) (by show w.heap.size < _; omega)).trans f1
  · exact (hb.cell (p := ⟨w.heap.size + 1, 0, none⟩) (by show w.heap.size + 1 < _; omega)).trans g0
  · exact (hb.cell (p := ⟨w.heap.size + 1, 1, none⟩) (by show w.heap.size + 1 < _; omega)).trans g1
  · exact (hb.cell (p := ⟨w.heap.size + 1 + 1, 0, none⟩) (by show w.heap.size + 1 + 1 < _; omega)).trans r0
  · exact (hb.cell (p := ⟨w.heap.size + 1 + 1, 1, none⟩) (by show w.heap.size + 1 + 1 < _; omega)).trans r1
  · exact (hb.frozen (p := ⟨w.heap.size + 1 + 1, o, none⟩) (by show w.heap.size + 1 + 1 < _; omega)).trans (rf o)
theorem Ad.below {w u u' : World} {v v' : Value} {mf mg : Int} (h : Ad w v mf v' mg u) (hb : Below u.heap.size u u') : Ad w v mf v' mg u' := h.keep (hb.mono h.1.2)
theorem ad_new (w : World) (v v' : Value) (mf mg : Int) (t : TypeId) : Ad w v mf v' mg (((w.alloc (.cells #[v, .int .i64 mf] t)).alloc (.cells #[v', .int .i64 mg] t)).alloc (.cells #[.slice none 0 0, .int .i64 0] t)) :=
  ⟨(((Ahead.refl w).alloc _).alloc _).alloc _, ⟨by go_simp, by go_simp⟩, ⟨by go_simp, by go_simp⟩, by go_simp, by go_simp, fun o => by go_simp⟩
def Rw (w : World) (x : Value) (n : Nat) (q : Fa.Tms) (u : World) : Prop := u.ownsRow (w.heap.size + 3) 36 2 x n (q.flatMap prCells)
theorem Rw.below {w u u' : World} {x : Value} {n : Nat} {q : Fa.Tms} (h : Rw w x n q u) (hb : Below u.heap.size u u') : Rw w x n q u' :=
  World.ownsRow.kept h (row := none) ⟨hb.os, hb.tape, hb.output, hb.size, fun k hk _ => hb.block k hk⟩ (by cases hv : x.ownBlock <;> simp)
theorem Rw.app {w u' : World} {x' : Value} {n : Nat} {q : Fa.Tms} {t : Int × Int} (hown : u'.ownsRow (w.heap.size + 3) 36 2 x' (n + 1) (q.flatMap prCells ++ prCells t)) : Rw w x' (n + 1) (q ++ [t]) u' := by
  unfold Rw; rw [List.flatMap_append]; simpa using hown
theorem Rw.grown {w u u' : World} {x : Value} {n : Nat} {q : Fa.Tms} {v v' : Value} {mf mg : Int} (h : Rw w x n q u) (hA : Ad w v mf v' mg u) (hg : u.grownBy u' x.ownBlock) : Ad w v mf v' mg u' :=
  hA.keep ((Below.refl _ u).grown hg hA.1.2 fun k hk => (World.ownsRow.lt h k hk).1)
set_option maxRecDepth 100000 in
set_option maxHeartbeats 16000000 in
theorem radd_any (f : Fa.Tms) (mf : Int) (vf : Value) (g : Fa.Tms) (mg : Int) (vg : Value) (a b : Int) (r : Fa.Tms × Int × Int) (w : World) (hf : PrsIn w vf f) (hmf : f.length ≤ maxLen) (hg : PrsIn w vg g) (hmg : g.length ≤ maxLen)
    (hr : Fa.addR f mf g mg a b = r) : Calls Try.prog 30 #[.agg #[vf, .int .i64 mf], .agg #[vg, .int .i64 mg], .int .i64 a, .int .i64 b] w (OfPost r w) := by
  have HA := Lib.hid (ad_new w vf vg mf mg 30)
  obtain ⟨ef, hef⟩ : ∃ x, Fa.chk f mf = x := ⟨_, rfl⟩
  obtain ⟨eg, heg⟩ : ∃ x, Fa.chk g mg = x := ⟨_, rfl⟩
  have HCf := Lib.hid (rcheck_any f mf vf ef _ (hf.below (((Below.refl _ _).alloc (Nat.le_refl _) (.cells #[vf, .int .i64 mf] 30)).alloc (by simp) (.cells #[vg, .int .i64 mg] 30) |>.alloc (by simp; omega) (.cells #[.slice none 0 0, .int .i64 0] 30))) hmf hef)
  have HCg := Lib.hid fun (u : World) (hb : Below w.heap.size w u) => rcheck_any g mg vg eg u (hg.below hb) hmg heg
  obtain ⟨A, c, rfl, hof⟩ := hf.opened
  obtain ⟨C, d, rfl, hog⟩ := hg.opened
  unfold maxLen at hmf hmg
  have HOf := Lib.hid hof
  have HOg := Lib.hid hog
  have HEf := Lib.hid hef
  have HEg := Lib.hid heg
  have HR := Lib.hid hr
  obtain ⟨n, hn⟩ : ∃ n, f.length = n := ⟨_, rfl⟩
  obtain ⟨m, hm⟩ : ∃ m, g.length = m := ⟨_, rfl⟩
  have HN := Lib.hid hn
  have HM := Lib.hid hm
  rw [hn] at hmf HOf HA HCf
  rw [hm] at hmg HOg HA HCf HCg
  rw [hn, hm]
  clear hf hg hof hog hef heg hr hn hm
  obtain ⟨iT, hi0, hz0, hz1, hz2⟩ := info_parts Try.infoTm
  have HIT := Lib.hid (And.intro hi0 (And.intro hz0 (And.intro hz1 hz2)))
  clear hi0 hz0 hz1 hz2
  go_enter Try.func30, Try.ntmps30
  go_wp2_with fail
  refine HCf.out.mono ?_
  rintro e w1 ⟨rfl, hb1⟩
  have HA1 := Lib.hid (HA.out.below hb1)
  clear hb1 HA HCf
  by_cases h1 : ef = 0
  · subst h1
    obtain ⟨hbx, ⟨f0, f1⟩, ⟨g0, g1⟩, r0, r1, rf⟩ := HA1.out
    go_wp2_with fail
    clear hbx f0 f1 g0 g1 r0 r1 rf
    refine (HCg.out _ HA1.out.1.1).mono ?_
    rintro e w2 ⟨rfl, hb2⟩
    have HA2 := Lib.hid (HA1.out.below hb2)
    clear hb2 HA1 HCg
    by_cases h2 : eg = 0
    · subst h2
      have hmb := (Fa.ok_of HEf.out).2.1
      have hmb2 := (Fa.ok_of HEg.out).2.1
      have HMf := Lib.hid (Fa.inC_iff.1 hmb)
      have HMg := Lib.hid (Fa.inC_iff.1 hmb2)
      clear hmb hmb2
      by_cases c1 : a < 0
      · have HE := Lib.hid (HR.out.symm.trans (Fa.add_bad HEf.out HEg.out (by simp [Fa.abad, c1])))
        obtain ⟨hbx, ⟨f0, f1⟩, ⟨g0, g1⟩, r0, r1, rf⟩ := HA2.out
        have rf0 := rf 0
        have rf1 := rf 1
        go_wp2
        refine bodyPost_ret (v := .tuple #[.agg #[.slice none 0 0, .int .i64 0], .int .i64 3]) ?_ rfl ⟨_, by rw [HE.out], by rw [HE.out]; exact World.ownsRow_nil _ _ _ _, by first | exact hbx.1 | exact ((hbx.set (by omega) _).set (by omega) _).1⟩
        simp [results, Try.results30, go_sem, r0, r1, hbx.lt2]
      · skip
        by_cases c2 : 1048576 < a
        · have HE := Lib.hid (HR.out.symm.trans (Fa.add_bad HEf.out HEg.out (by simp [Fa.abad, c1, c2])))
          obtain ⟨hbx, ⟨f0, f1⟩, ⟨g0, g1⟩, r0, r1, rf⟩ := HA2.out
          have rf0 := rf 0
          have rf1 := rf 1
          go_wp2
          refine bodyPost_ret (v := .tuple #[.agg #[.slice none 0 0, .int .i64 0], .int .i64 3]) ?_ rfl ⟨_, by rw [HE.out], by rw [HE.out]; exact World.ownsRow_nil _ _ _ _, by first | exact hbx.1 | exact ((hbx.set (by omega) _).set (by omega) _).1⟩
          simp [results, Try.results30, go_sem, r0, r1, hbx.lt2]
        · skip
          by_cases c3 : b < 0
          · have HE := Lib.hid (HR.out.symm.trans (Fa.add_bad HEf.out HEg.out (by simp [Fa.abad, c1, c2, c3])))
            obtain ⟨hbx, ⟨f0, f1⟩, ⟨g0, g1⟩, r0, r1, rf⟩ := HA2.out
            have rf0 := rf 0
            have rf1 := rf 1
            go_wp2
            refine bodyPost_ret (v := .tuple #[.agg #[.slice none 0 0, .int .i64 0], .int .i64 3]) ?_ rfl ⟨_, by rw [HE.out], by rw [HE.out]; exact World.ownsRow_nil _ _ _ _, by first | exact hbx.1 | exact ((hbx.set (by omega) _).set (by omega) _).1⟩
            simp [results, Try.results30, go_sem, r0, r1, hbx.lt2]
          · skip
            by_cases c4 : 1048576 < b
            · have HE := Lib.hid (HR.out.symm.trans (Fa.add_bad HEf.out HEg.out (by simp [Fa.abad, c1, c2, c3, c4])))
              obtain ⟨hbx, ⟨f0, f1⟩, ⟨g0, g1⟩, r0, r1, rf⟩ := HA2.out
              have rf0 := rf 0
              have rf1 := rf 1
              go_wp2
              refine bodyPost_ret (v := .tuple #[.agg #[.slice none 0 0, .int .i64 0], .int .i64 3]) ?_ rfl ⟨_, by rw [HE.out], by rw [HE.out]; exact World.ownsRow_nil _ _ _ _, by first | exact hbx.1 | exact ((hbx.set (by omega) _).set (by omega) _).1⟩
              simp [results, Try.results30, go_sem, r0, r1, hbx.lt2]
            · skip
              have HE := Lib.hid (HR.out.symm.trans (Fa.add_ok HEf.out HEg.out (by simp [Fa.abad, c1, c2, c3, c4])))
              have hab := (show 0 ≤ a ∧ a ≤ 1048576 by omega)
              have hbb2 := (show 0 ≤ b ∧ b ≤ 1048576 by omega)
              have HS13 := Lib.hid (And.intro HA2.out (show Rw w (.slice none 0 0) 0 ((f.take 0).map (Fa.scale a)) w2 from World.ownsRow_nil _ _ _ _))
              have hn64 : n ≤ 64 := by have := (Fa.ok_of HEf.out).1; have := HN.out; omega
              have hm64 : m ≤ 64 := by have := (Fa.ok_of HEg.out).1; have := HM.out; omega
              clear HA2
              go_wp2
              go_loopw [12, 13] (fun x i wr => ∃ k : Nat, k ≤ n ∧ i = .int .i64 k ∧ Hid (Ad w (.slice A n c) mf (.slice C m d) mg wr ∧ Rw w x (k) ((f.take k).map (Fa.scale a)) wr)) (fun _ i _ => n - (intOf i).toNat)
              case atStart => exact ⟨0, Nat.zero_le _, rfl, HS13⟩
              case round =>
                obtain ⟨k, hk, rfl, HKk⟩ := hrel
                obtain ⟨hbx, ⟨f0, f1⟩, ⟨g0, g1⟩, r0, r1, rf⟩ := HKk.out.1
                by_cases hlt : k < n
                · have hlt' : (k : Int) < n := by omega
                  obtain ⟨p, off, rfl, hbb, hx, hy⟩ := HOf.out k hlt
                  replace hx := (hbx.1.cell (p := ⟨p, off + k * 2, none⟩) hbb).trans hx
                  replace hy := (hbx.1.cell (p := ⟨p, off + k * 2 + 1, none⟩) hbb).trans hy
                  have hm2 := Fa.mul_in hab (Fa.ok_term HEf.out (i := k) (by have := HN.out; omega)).2
                  have hts := Fa.take_scale (f := f) a k (by have := HN.out; omega)
                  generalize (f.getD k (0, 0)).1 = x0 at hx hts
                  generalize (f.getD k (0, 0)).2 = y0 at hy hts hm2
                  have HTS := Lib.hid hts
                  have w1 : IntKind.i64.wrap (a * y0) = a * y0 := IntWalk.i64_in _ (by omega)
                  clear hts hm2
                  have HAd := Lib.hid ((HKk.out.1.below ((Below.refl _ _).alloc (Nat.le_refl _) (.cells #[.int .i64 x0, .int .i64 (a * y0)] 36))).below (below_drewN _ _ 1))
                  have HQ := Lib.hid (show ∀ i u, (prCells (x0, a * y0))[i]? = some u → (wr.alloc (.cells #[.int .i64 x0, .int .i64 (a * y0)] 36)).drew.cell? ((⟨wr.heap.size, 0, none⟩ : Addr).add i) = some u from
                    World.news_of_block (w := (wr.alloc (.cells #[.int .i64 x0, .int .i64 (a * y0)] 36)).drew) (cs := #[.int .i64 x0, .int .i64 (a * y0)]) (heap_alloc_new wr _))
                  have HO8 := Lib.hid (show Rw w u12 (k) ((f.take k).map (Fa.scale a)) (wr.alloc (.cells #[.int .i64 x0, .int .i64 (a * y0)] 36)).drew from (HKk.out.2.below ((Below.refl _ _).alloc (Nat.le_refl _) _)).below (below_drewN _ _ 1))
                  have HB8 := Lib.hid (show w.heap.size + 3 ≤ (wr.alloc (.cells #[.int .i64 x0, .int .i64 (a * y0)] 36)).drew.heap.size by have := hbx.2; simp; omega)
                  have HC8 := Lib.hid (show ∀ u ∈ prCells (x0, a * y0), u.oneCell' = true by intro u hu; simp [prCells] at hu; rcases hu with rfl | rfl <;> rfl)
                  go_upto_region 13 with fail
                  go_region_law (refine step_append_lies _ rfl (.tmp 49) (.tmp 65) 28 rfl (w.heap.size + 3) 36 iT _ 2 16 Try.underlying28 HIT.out.1 HIT.out.2.1 HIT.out.2.2.1 HIT.out.2.2.2 rfl (by decide) u12 (k) (((f.take k).map (Fa.scale a)).flatMap prCells) (by simp [Act.eval]) HO8.out ⟨wr.heap.size, 0, none⟩ 1 1 (prCells (x0, a * y0)) (by simp [Act.eval]) rfl HQ.out HC8.out (by omega) (by unfold maxLen; omega) (by omega) HB8.out _ rfl ?_; intro g8 cap W8 hown8 hgrow8 _ _; have HA8 := Lib.hid (Rw.grown HO8.out HAd.out hgrow8); have HR8 := Lib.hid (Rw.app hown8); clear hown8 hgrow8)
                  all_goals
                    go_wp2
                    go_roundw
                    case rel => exact ⟨k + 1, by omega, by first | rfl | go_num, Lib.hid ⟨HA8.out, by rw [HTS.out]; first | exact HR8.out | (rw [← List.append_assoc]; exact HR8.out)⟩⟩
                    case measure => simp [intOf]; omega
                · have hlt' : ¬ (k : Int) < n := by omega
                  have hkn : k = n := by omega
                  have HS14 := Lib.hid (And.intro HKk.out.1 (show Rw w u12 (n + 0) (f.map (Fa.scale a) ++ (g.take 0).map (Fa.scale b)) wr from by
                    have h := HKk.out.2
                    rw [hkn, List.take_of_length_le (by have := HN.out; omega)] at h
                    simpa using h))
                  clear hbx f0 f1 g0 g1 r0 r1 rf
                  obtain ⟨hbx, ⟨f0, f1⟩, ⟨g0, g1⟩, r0, r1, rf⟩ := HS14.out.1
                  clear hkn HKk hlt hk HS13
                  go_wp2
                  clear hbx f0 f1 g0 g1 r0 r1 rf hlt'
                  go_loopw [12, 14] (fun x i wr => ∃ k : Nat, k ≤ m ∧ i = .int .i64 k ∧ Hid (Ad w (.slice A n c) mf (.slice C m d) mg wr ∧ Rw w x (n + k) (f.map (Fa.scale a) ++ (g.take k).map (Fa.scale b)) wr)) (fun _ i _ => m - (intOf i).toNat)
                  case atStart => exact ⟨0, Nat.zero_le _, rfl, HS14⟩
                  case round =>
                    obtain ⟨k, hk, rfl, HKk⟩ := hrel
                    obtain ⟨hbx, ⟨f0, f1⟩, ⟨g0, g1⟩, r0, r1, rf⟩ := HKk.out.1
                    by_cases hlt : k < m
                    · have hlt' : (k : Int) < m := by omega
                      obtain ⟨p, off, rfl, hbb, hx, hy⟩ := HOg.out k hlt
                      replace hx := (hbx.1.cell (p := ⟨p, off + k * 2, none⟩) hbb).trans hx
                      replace hy := (hbx.1.cell (p := ⟨p, off + k * 2 + 1, none⟩) hbb).trans hy
                      have hm2 := Fa.mul_in hbb2 (Fa.ok_term HEg.out (i := k) (by have := HM.out; omega)).2
                      have hts := Fa.take_scale (f := g) b k (by have := HM.out; omega)
                      generalize (g.getD k (0, 0)).1 = x0 at hx hts
                      generalize (g.getD k (0, 0)).2 = y0 at hy hts hm2
                      have HTS := Lib.hid hts
                      have w1 : IntKind.i64.wrap (b * y0) = b * y0 := IntWalk.i64_in _ (by omega)
                      clear hts hm2
                      have HAd := Lib.hid ((HKk.out.1.below ((Below.refl _ _).alloc (Nat.le_refl _) (.cells #[.int .i64 x0, .int .i64 (b * y0)] 36))).below (below_drewN _ _ 1))
                      have HQ := Lib.hid (show ∀ i u, (prCells (x0, b * y0))[i]? = some u → (wr.alloc (.cells #[.int .i64 x0, .int .i64 (b * y0)] 36)).drew.cell? ((⟨wr.heap.size, 0, none⟩ : Addr).add i) = some u from
                        World.news_of_block (w := (wr.alloc (.cells #[.int .i64 x0, .int .i64 (b * y0)] 36)).drew) (cs := #[.int .i64 x0, .int .i64 (b * y0)]) (heap_alloc_new wr _))
                      have HO8 := Lib.hid (show Rw w u12 (n + k) (f.map (Fa.scale a) ++ (g.take k).map (Fa.scale b)) (wr.alloc (.cells #[.int .i64 x0, .int .i64 (b * y0)] 36)).drew from (HKk.out.2.below ((Below.refl _ _).alloc (Nat.le_refl _) _)).below (below_drewN _ _ 1))
                      have HB8 := Lib.hid (show w.heap.size + 3 ≤ (wr.alloc (.cells #[.int .i64 x0, .int .i64 (b * y0)] 36)).drew.heap.size by have := hbx.2; simp; omega)
                      have HC8 := Lib.hid (show ∀ u ∈ prCells (x0, b * y0), u.oneCell' = true by intro u hu; simp [prCells] at hu; rcases hu with rfl | rfl <;> rfl)
                      go_upto_region 17 with fail
                      go_region_law (refine step_append_lies _ rfl (.tmp 74) (.tmp 90) 28 rfl (w.heap.size + 3) 36 iT _ 2 16 Try.underlying28 HIT.out.1 HIT.out.2.1 HIT.out.2.2.1 HIT.out.2.2.2 rfl (by decide) u12 (n + k) ((f.map (Fa.scale a) ++ (g.take k).map (Fa.scale b)).flatMap prCells) (by simp [Act.eval]) HO8.out ⟨wr.heap.size, 0, none⟩ 1 1 (prCells (x0, b * y0)) (by simp [Act.eval]) rfl HQ.out HC8.out (by omega) (by unfold maxLen; omega) (by omega) HB8.out _ rfl ?_; intro g8 cap W8 hown8 hgrow8 _ _; have HA8 := Lib.hid (Rw.grown HO8.out HAd.out hgrow8); have HR8 := Lib.hid (Rw.app hown8); clear hown8 hgrow8)
                      all_goals
                        go_wp2
                        go_roundw
                        case rel => exact ⟨k + 1, by omega, by first | rfl | go_num, Lib.hid ⟨HA8.out, by rw [HTS.out]; first | exact HR8.out | (rw [← List.append_assoc]; exact HR8.out)⟩⟩
                        case measure => simp [intOf]; omega
                    · have hlt' : ¬ (k : Int) < m := by omega
                      have hkm : k = m := by omega
                      have hrow := HKk.out.2
                      rw [hkm, List.take_of_length_le (l := g) (by have := HM.out; omega)] at hrow
                      have hll : (f.map (Fa.scale a) ++ g.map (Fa.scale b)).length = n + m := by have := HM.out; have := HN.out; simp; omega
                      have hP : PrsIn wr u12 (f.map (Fa.scale a) ++ g.map (Fa.scale b)) := by unfold PrsIn; rw [hll]; exact RowIn.own hrow
                      have HOF := Lib.hid (rof_any _ (a * mf + b * mg) u12 r wr hP (by rw [hll]; unfold maxLen; omega) HE.out.symm)
                      have hq1 := Fa.mul_in hab HMf.out
                      have hq2 := Fa.mul_in hbb2 HMg.out
                      have w1 : IntKind.i64.wrap (a * mf) = a * mf := IntWalk.i64_in _ (by omega)
                      have w2 : IntKind.i64.wrap (b * mg) = b * mg := IntWalk.i64_in _ (by omega)
                      have w3 : IntKind.i64.wrap (a * mf + b * mg) = a * mf + b * mg := IntWalk.i64_in _ (by omega)
                      clear hrow hll hP hkm hq1 hq2 HS14
                      have HAd := Lib.hid HKk.out.1
                      go_wp2_with (go_at_call 25; refine HOF.out.mono ?_; rintro e W9 ⟨v9, rfl, hO9, hb9⟩; obtain ⟨Ar, cr, rfl, _⟩ := RowIn.own hO9; have HO9 := Lib.hid hO9; clear hO9; have HA9 := Lib.hid (HAd.out.below hb9); obtain ⟨hbx9, _, _, s0, s1, sf⟩ := HA9.out; have sf0 := sf 0; have sf1 := sf 1)
                      refine bodyPost_ret (v := .tuple #[.agg #[.slice Ar r.1.length cr, .int .i64 r.2.1], .int .i64 r.2.2]) ?_ rfl ⟨.slice Ar r.1.length cr, rfl, own_two HO9.out (by have := hbx.2; omega) (by have := hbx.2; omega) _ _, ((hbx9.set (by omega) _).set (by omega) _).1⟩
                      simp [results, Try.results30, go_sem, s0, s1, hbx9.lt2]
    · have e0 : (eg != 0) = true := by simp [h2]
      have HE := Lib.hid (HR.out.symm.trans ((Fa.add_g HEf.out (by rw [HEg.out]; exact h2)).trans (by rw [HEg.out])))
      clear HR
      obtain ⟨hbx, ⟨f0, f1⟩, ⟨g0, g1⟩, r0, r1, rf⟩ := HA2.out
      have rf0 := rf 0
      have rf1 := rf 1
      go_wp2
      refine bodyPost_ret (v := .tuple #[.agg #[.slice none 0 0, .int .i64 0], .int .i64 eg]) ?_ rfl ⟨_, by rw [HE.out], by rw [HE.out]; exact World.ownsRow_nil _ _ _ _, by first | exact hbx.1 | exact ((hbx.set (by omega) _).set (by omega) _).1⟩
      simp [results, Try.results30, go_sem, r0, r1, hbx.lt2]
  · have e0 : (ef != 0) = true := by simp [h1]
    have HE := Lib.hid (HR.out.symm.trans ((Fa.add_f (by rw [HEf.out]; exact h1)).trans (by rw [HEf.out])))
    clear HR
    obtain ⟨hbx, ⟨f0, f1⟩, ⟨g0, g1⟩, r0, r1, rf⟩ := HA1.out
    have rf0 := rf 0
    have rf1 := rf 1
    go_wp2
    refine bodyPost_ret (v := .tuple #[.agg #[.slice none 0 0, .int .i64 0], .int .i64 ef]) ?_ rfl ⟨_, by rw [HE.out], by rw [HE.out]; exact World.ownsRow_nil _ _ _ _, by first | exact hbx.1 | exact ((hbx.set (by omega) _).set (by omega) _).1⟩
    simp [results, Try.results30, go_sem, r0, r1, hbx.lt2]
end Go.Proofs.Ytpinncjnfbebkaa
