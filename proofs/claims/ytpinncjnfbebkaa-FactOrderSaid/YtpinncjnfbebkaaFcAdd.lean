/- The code of layer 11: Add. No condition. -/
import Derived.Test.YtpinncjnfbebkaaFcConcat
import Derived.Test.YtpinncjnfbebkaaFcOf
import Derived.Test.YtpinncjnfbebkaaFcCheck
import Derived.Test.YtpinncjnfbebkaaFaAdd
import Derived.Deep.RegionWith
import Derived.Deep.DeepCutAuto
import Derived.Deep.CutBlock
namespace Go.Proofs.Ytpinncjnfbebkaa
open Go.RowKit
set_option linter.unusedVariables false
set_option linter.unusedSimpArgs false
attribute [local go_sem] y_undef
/-- The boxes of the two facts alone. -/
def Ae (w : World) (v : Value) (mf : Int) (v' : Value) (mg : Int) (u : World) : Prop :=
  Ahead 3 w u ∧ (u.cell? ⟨w.heap.size, 0, none⟩ = some v ∧ u.cell? ⟨w.heap.size, 1, none⟩ = some (.int .i64 mf)) ∧ u.cell? ⟨w.heap.size + 1, 0, none⟩ = some v' ∧ u.cell? ⟨w.heap.size + 1, 1, none⟩ = some (.int .i64 mg)
theorem Ad.ae {w u : World} {v v' : Value} {mf mg : Int} (h : Ad w v mf v' mg u) : Ae w v mf v' mg u := ⟨h.1, h.2.1, h.2.2.1⟩
theorem Ae.setR {w u : World} {v v' : Value} {mf mg : Int} (h : Ae w v mf v' mg u) (x y : Value) : Ae w v mf v' mg ((u.setCell ⟨w.heap.size + 1 + 1, 0, none⟩ x).setCell ⟨w.heap.size + 1 + 1, 1, none⟩ y) :=
  ⟨(h.1.set (by omega) _).set (by omega) _, ⟨(far2 (by omega)).trans h.2.1.1, (far2 (by omega)).trans h.2.1.2⟩, (far2 (by omega)).trans h.2.2.1, (far2 (by omega)).trans h.2.2.2⟩
set_option maxRecDepth 100000 in
set_option maxHeartbeats 16000000 in
theorem fadd_any (f : Fa.Tms) (mf : Int) (vf : Value) (g : Fa.Tms) (mg : Int) (vg : Value) (a b : Int) (r : Fa.Tms × Int × Int) (w : World) (hf : PrsIn w vf f) (hmf : f.length ≤ maxLen) (hg : PrsIn w vg g) (hmg : g.length ≤ maxLen)
    (hr : Fa.addR f mf g mg a b = r) : Calls Try.prog 23 #[.agg #[vf, .int .i64 mf], .agg #[vg, .int .i64 mg], .int .i64 a, .int .i64 b] w (OfPost r w) := by
  have HA := Lib.hid (ad_new w vf vg mf mg 30)
  obtain ⟨ef, hef⟩ : ∃ x, Fa.chk f mf = x := ⟨_, rfl⟩
  obtain ⟨eg, heg⟩ : ∃ x, Fa.chk g mg = x := ⟨_, rfl⟩
  have HCf := Lib.hid (fcheck_any f mf vf ef _ (hf.below (((Below.refl _ _).alloc (Nat.le_refl _) (.cells #[vf, .int .i64 mf] 30)).alloc (by simp) (.cells #[vg, .int .i64 mg] 30) |>.alloc (by simp; omega) (.cells #[.slice none 0 0, .int .i64 0] 30))) hmf hef)
  have HCg := Lib.hid fun (u : World) (hb : Below w.heap.size w u) => fcheck_any g mg vg eg u (hg.below hb) hmg heg
  have HTf := Lib.hid fun (u : World) (hb : Below w.heap.size w u) (h0 : Fa.chk f mf = 0) (ha : 0 ≤ a ∧ a ≤ 1048576) => ftimes_any f vf a u (hf.below hb) (by have := (Fa.ok_of h0).1; omega) ha (fun j hj => (Fa.ok_term h0 hj).2)
  have HTg := Lib.hid fun (u : World) (hb : Below w.heap.size w u) (h0 : Fa.chk g mg = 0) (ha : 0 ≤ b ∧ b ≤ 1048576) => ftimes_any g vg b u (hg.below hb) (by have := (Fa.ok_of h0).1; omega) ha (fun j hj => (Fa.ok_term h0 hj).2)
  obtain ⟨A, c, rfl, _⟩ := hf.opened
  obtain ⟨C, d, rfl, _⟩ := hg.opened
  unfold maxLen at hmf hmg
  have HEf := Lib.hid hef
  have HEg := Lib.hid heg
  have HR := Lib.hid hr
  obtain ⟨n, hn⟩ : ∃ n, f.length = n := ⟨_, rfl⟩
  obtain ⟨m, hm⟩ : ∃ m, g.length = m := ⟨_, rfl⟩
  have HN := Lib.hid hn
  have HM := Lib.hid hm
  rw [hn] at hmf HA HCf HTf
  rw [hm] at hmg HA HCf HCg HTg
  rw [hn, hm]
  clear hf hg hef heg hr hn hm
  go_enter Try.func23, Try.ntmps23
  go_wp2_with fail
  refine HCf.out.mono ?_
  rintro e w1 ⟨rfl, hb1⟩
  have HA1 := Lib.hid (HA.out.below hb1)
  clear hb1 HA HCf
  by_cases h1 : ef = 0
  · subst h1
    obtain ⟨hbx, ⟨f0, f1⟩, ⟨g0, g1⟩, r0, r1, rf⟩ := HA1.out
    go_wp2_with fail
    clear hbx f0 f1 g0 g1 r0 r1 rf
    refine (HCg.out _ HA1.out.1.1).mono ?_
    rintro e w2 ⟨rfl, hb2⟩
    have HA2 := Lib.hid (HA1.out.below hb2)
    clear hb2 HA1 HCg
    by_cases h2 : eg = 0
    · subst h2
      have hmb := (Fa.ok_of HEf.out).2.1
      have hmb2 := (Fa.ok_of HEg.out).2.1
      have HMf := Lib.hid (Fa.inC_iff.1 hmb)
      have HMg := Lib.hid (Fa.inC_iff.1 hmb2)
      clear hmb hmb2
      by_cases c1 : a < 0
      · have HE := Lib.hid (HR.out.symm.trans (Fa.add_bad HEf.out HEg.out (by simp [Fa.abad, c1])))
        obtain ⟨hbx, ⟨f0, f1⟩, ⟨g0, g1⟩, r0, r1, rf⟩ := HA2.out
        have rf0 := rf 0
        have rf1 := rf 1
        go_wp2
        refine bodyPost_ret (v := .tuple #[.agg #[.slice none 0 0, .int .i64 0], .int .i64 3]) ?_ rfl ⟨_, by rw [HE.out], by rw [HE.out]; exact World.ownsRow_nil _ _ _ _, by first | exact hbx.1 | exact ((hbx.set (by omega) _).set (by omega) _).1⟩
        simp [results, Try.results23, go_sem, r0, r1, hbx.lt2]
      · by_cases c2 : b < 0
        · have HE := Lib.hid (HR.out.symm.trans (Fa.add_bad HEf.out HEg.out (by simp [Fa.abad, c2])))
          obtain ⟨hbx, ⟨f0, f1⟩, ⟨g0, g1⟩, r0, r1, rf⟩ := HA2.out
          have rf0 := rf 0
          have rf1 := rf 1
          go_wp2
          refine bodyPost_ret (v := .tuple #[.agg #[.slice none 0 0, .int .i64 0], .int .i64 3]) ?_ rfl ⟨_, by rw [HE.out], by rw [HE.out]; exact World.ownsRow_nil _ _ _ _, by first | exact hbx.1 | exact ((hbx.set (by omega) _).set (by omega) _).1⟩
          simp [results, Try.results23, go_sem, r0, r1, hbx.lt2]
        · cases c3 : Fa.inC a
          · have HI := Lib.hid c3
            have c3' : 1048576 < a := by unfold Fa.inC at c3; simp at c3; omega
            have HE := Lib.hid (HR.out.symm.trans (Fa.add_bad HEf.out HEg.out (by simp [Fa.abad, c3'])))
            clear c3 c3'
            obtain ⟨hbx, ⟨f0, f1⟩, ⟨g0, g1⟩, r0, r1, rf⟩ := HA2.out
            have rf0 := rf 0
            have rf1 := rf 1
            go_wp2_with (first | (go_at_call 37; with_reducible refine (fcoef_any a false HI.out _).mono ?_; rintro e w4 ⟨rfl, rfl⟩))
            refine bodyPost_ret (v := .tuple #[.agg #[.slice none 0 0, .int .i64 0], .int .i64 3]) ?_ rfl ⟨_, by rw [HE.out], by rw [HE.out]; exact World.ownsRow_nil _ _ _ _, by first | exact hbx.1 | exact ((hbx.set (by omega) _).set (by omega) _).1⟩
            simp [results, Try.results23, go_sem, r0, r1, hbx.lt2]
          · have HI := Lib.hid c3
            cases c4 : Fa.inC b
            · have HJ := Lib.hid c4
              have c4' : 1048576 < b := by unfold Fa.inC at c4; simp at c4; omega
              have HE := Lib.hid (HR.out.symm.trans (Fa.add_bad HEf.out HEg.out (by simp [Fa.abad, c4'])))
              clear c3 c4 c4'
              obtain ⟨hbx, ⟨f0, f1⟩, ⟨g0, g1⟩, r0, r1, rf⟩ := HA2.out
              have rf0 := rf 0
              have rf1 := rf 1
              go_wp2_with (first | (go_at_call 37; with_reducible refine (fcoef_any a true HI.out _).mono ?_; rintro e w4 ⟨rfl, rfl⟩) | (go_at_call 37; with_reducible refine (fcoef_any b false HJ.out _).mono ?_; rintro e w4 ⟨rfl, rfl⟩))
              refine bodyPost_ret (v := .tuple #[.agg #[.slice none 0 0, .int .i64 0], .int .i64 3]) ?_ rfl ⟨_, by rw [HE.out], by rw [HE.out]; exact World.ownsRow_nil _ _ _ _, by first | exact hbx.1 | exact ((hbx.set (by omega) _).set (by omega) _).1⟩
              simp [results, Try.results23, go_sem, r0, r1, hbx.lt2]
            · have HJ := Lib.hid c4
              have c3' : a ≤ 1048576 := by unfold Fa.inC at c3; simp at c3; omega
              have c4' : b ≤ 1048576 := by unfold Fa.inC at c4; simp at c4; omega
              have HE := Lib.hid (HR.out.symm.trans (Fa.add_ok HEf.out HEg.out (by simp [Fa.abad, c1, c2]; omega)))
              clear c3 c4
              have hab : 0 ≤ a ∧ a ≤ 1048576 := by omega
              have hbb2 : 0 ≤ b ∧ b ≤ 1048576 := by omega
              have hn64 : n ≤ 64 := by have := (Fa.ok_of HEf.out).1; have := HN.out; omega
              have hm64 : m ≤ 64 := by have := (Fa.ok_of HEg.out).1; have := HM.out; omega
              have hq1 := Fa.mul_in hab HMf.out
              have hq2 := Fa.mul_in hbb2 HMg.out
              have wa1 : IntKind.i64.wrap (a * mf) = a * mf := IntWalk.i64_in _ (by omega)
              have wa2 : IntKind.i64.wrap (b * mg) = b * mg := IntWalk.i64_in _ (by omega)
              have wa3 : IntKind.i64.wrap (a * mf + b * mg) = a * mf + b * mg := IntWalk.i64_in _ (by omega)
              have HAB := Lib.hid hab
              have HBB := Lib.hid hbb2
              clear hq1 hq2 hab hbb2
              go_upto_region 9 with (first | (go_at_call 37; with_reducible refine (fcoef_any a true HI.out _).mono ?_; rintro e w4 ⟨rfl, rfl⟩) | (go_at_call 37; with_reducible refine (fcoef_any b true HJ.out _).mono ?_; rintro e w4 ⟨rfl, rfl⟩))
              have hAd : Ad w (.slice A n c) mf (.slice C m d) mg w4.drew := HA2.out.below (below_drewN _ _ 1)
              refine wp_region_held_drew (S := (fun u => Ae w (.slice A n c) mf (.slice C m d) mg u)) (by kernel_rfl) hAd.ae (fun hHeld => ?_)
              generalize w4.drew = u0 at *
              refine' wpAnyH_take (i := 0) (v := _) ?_ ?_ ?_ ?_ ?_ ?_ ?_ ?_
              rotate_left 2
              focus (simp only [List.getElem?_toArray, List.getElem?_cons_succ, List.getElem?_cons_zero]; rfl)
              focus kernel_rfl
              focus kernel_rfl
              focus kernel_rfl
              focus exact (fun _ _ _ h => h)
              refine Or.inl ⟨?_, ?_⟩
              focus (go_simp; done)
              focus (intro w hSw; obtain ⟨_, ⟨f0, f1⟩, ⟨g0, g1⟩⟩ := hSw; (first | (go_simp; done) | (go_simp; with_reducible rfl)))
              focus assumption
              (try simp only [Act.put, List.setIfInBounds_toArray, List.set_cons_zero, List.set_cons_succ])
              refine' wpAnyH_take (i := 1) (v := _) ?_ ?_ ?_ ?_ ?_ ?_ ?_ ?_
              rotate_left 2
              focus (simp only [List.getElem?_toArray, List.getElem?_cons_succ, List.getElem?_cons_zero]; rfl)
              focus kernel_rfl
              focus kernel_rfl
              focus kernel_rfl
              focus exact (fun _ _ _ h => h)
              refine Or.inl ⟨?_, ?_⟩
              focus (go_simp; done)
              focus (intro w hSw; obtain ⟨_, ⟨f0, f1⟩, ⟨g0, g1⟩⟩ := hSw; (first | (go_simp; done) | (go_simp; with_reducible rfl)))
              focus assumption
              (try simp only [Act.put, List.setIfInBounds_toArray, List.set_cons_zero, List.set_cons_succ])
              refine' wpAnyH_take (i := 2) (v := _) ?_ ?_ ?_ ?_ ?_ ?_ ?_ ?_
              rotate_left 2
              focus (simp only [List.getElem?_toArray, List.getElem?_cons_succ, List.getElem?_cons_zero]; rfl)
              focus kernel_rfl
              focus kernel_rfl
              focus kernel_rfl
              focus exact (fun _ _ _ h => h)
              refine Or.inl ⟨?_, ?_⟩
              focus (go_simp; done)
              focus (intro w hSw; obtain ⟨_, ⟨f0, f1⟩, ⟨g0, g1⟩⟩ := hSw; (first | (go_simp; done) | (go_simp; with_reducible rfl)))
              focus assumption
              (try simp only [Act.put, List.setIfInBounds_toArray, List.set_cons_zero, List.set_cons_succ])
              refine' wpAnyH_take (i := 4) (v := _) ?_ ?_ ?_ ?_ ?_ ?_ ?_ ?_
              rotate_left 2
              focus (simp only [List.getElem?_toArray, List.getElem?_cons_succ, List.getElem?_cons_zero]; rfl)
              focus kernel_rfl
              focus kernel_rfl
              focus kernel_rfl
              focus exact (fun _ _ _ h => h)
              refine Or.inl ⟨?_, ?_⟩
              focus (go_simp; done)
              focus (intro w hSw; obtain ⟨_, ⟨f0, f1⟩, ⟨g0, g1⟩⟩ := hSw; (first | (go_simp; done) | (go_simp; with_reducible rfl)))
              focus assumption
              (try simp only [Act.put, List.setIfInBounds_toArray, List.set_cons_zero, List.set_cons_succ])
              refine' wpAnyH_take (i := 5) (v := _) ?_ ?_ ?_ ?_ ?_ ?_ ?_ ?_
              rotate_left 2
              focus (simp only [List.getElem?_toArray, List.getElem?_cons_succ, List.getElem?_cons_zero]; rfl)
              focus kernel_rfl
              focus kernel_rfl
              focus kernel_rfl
              focus exact (fun _ _ _ h => h)
              refine Or.inl ⟨?_, ?_⟩
              focus (go_simp; done)
              focus (intro w hSw; obtain ⟨_, ⟨f0, f1⟩, ⟨g0, g1⟩⟩ := hSw; (first | (go_simp; done) | (go_simp; with_reducible rfl)))
              focus assumption
              (try simp only [Act.put, List.setIfInBounds_toArray, List.set_cons_zero, List.set_cons_succ])
              refine' wpAnyH_take (i := 6) (v := _) ?_ ?_ ?_ ?_ ?_ ?_ ?_ ?_
              rotate_left 2
              focus (simp only [List.getElem?_toArray, List.getElem?_cons_succ, List.getElem?_cons_zero]; rfl)
              focus kernel_rfl
              focus kernel_rfl
              focus kernel_rfl
              focus exact (fun _ _ _ h => h)
              refine Or.inl ⟨?_, ?_⟩
              focus (go_simp; done)
              focus (intro w hSw; obtain ⟨_, ⟨f0, f1⟩, ⟨g0, g1⟩⟩ := hSw; (first | (go_simp; done) | (go_simp; with_reducible rfl)))
              focus assumption
              (try simp only [Act.put, List.setIfInBounds_toArray, List.set_cons_zero, List.set_cons_succ])
              refine' wpAnyH_take (i := 10) (v := _) ?_ ?_ ?_ ?_ ?_ ?_ ?_ ?_
              rotate_left 2
              focus (simp only [List.getElem?_toArray, List.getElem?_cons_succ, List.getElem?_cons_zero]; rfl)
              focus kernel_rfl
              focus kernel_rfl
              focus kernel_rfl
              focus exact (fun _ _ _ h => h)
              refine Or.inl ⟨?_, ?_⟩
              focus (go_simp; done)
              focus (intro w hSw; obtain ⟨_, ⟨f0, f1⟩, ⟨g0, g1⟩⟩ := hSw; (first | (go_simp; done) | (go_simp; with_reducible rfl)))
              focus assumption
              (try simp only [Act.put, List.setIfInBounds_toArray, List.set_cons_zero, List.set_cons_succ])
              refine' wpAnyH_take (i := 11) (v := _) ?_ ?_ ?_ ?_ ?_ ?_ ?_ ?_
              rotate_left 2
              focus (simp only [List.getElem?_toArray, List.getElem?_cons_succ, List.getElem?_cons_zero]; rfl)
              focus kernel_rfl
              focus kernel_rfl
              focus kernel_rfl
              focus exact (fun _ _ _ h => h)
              refine Or.inl ⟨?_, ?_⟩
              focus (go_simp; done)
              focus (intro w hSw; obtain ⟨_, ⟨f0, f1⟩, ⟨g0, g1⟩⟩ := hSw; (first | (go_simp; done) | (go_simp; with_reducible rfl)))
              focus assumption
              (try simp only [Act.put, List.setIfInBounds_toArray, List.set_cons_zero, List.set_cons_succ])
              refine' wpAnyH_take (i := 12) (v := _) ?_ ?_ ?_ ?_ ?_ ?_ ?_ ?_
              rotate_left 2
              focus (simp only [List.getElem?_toArray, List.getElem?_cons_succ, List.getElem?_cons_zero]; rfl)
              focus kernel_rfl
              focus kernel_rfl
              focus kernel_rfl
              focus exact (fun _ _ _ h => h)
              refine Or.inl ⟨?_, ?_⟩
              focus (go_simp; done)
              focus (intro w hSw; obtain ⟨_, ⟨f0, f1⟩, ⟨g0, g1⟩⟩ := hSw; (first | (go_simp; done) | (go_simp; with_reducible rfl)))
              focus assumption
              (try simp only [Act.put, List.setIfInBounds_toArray, List.set_cons_zero, List.set_cons_succ])
              refine' wpAnyH_take (i := 13) (v := _) ?_ ?_ ?_ ?_ ?_ ?_ ?_ ?_
              rotate_left 2
              focus (simp only [List.getElem?_toArray, List.getElem?_cons_succ, List.getElem?_cons_zero]; rfl)
              focus kernel_rfl
              focus kernel_rfl
              focus kernel_rfl
              focus exact (fun _ _ _ h => h)
              refine Or.inl ⟨?_, ?_⟩
              focus (go_simp; done)
              focus (intro w hSw; obtain ⟨_, ⟨f0, f1⟩, ⟨g0, g1⟩⟩ := hSw; (first | (go_simp; done) | (go_simp; with_reducible rfl)))
              focus assumption
              (try simp only [Act.put, List.setIfInBounds_toArray, List.set_cons_zero, List.set_cons_succ])
              refine' wpAnyH_take (i := 14) (v := _) ?_ ?_ ?_ ?_ ?_ ?_ ?_ ?_
              rotate_left 2
              focus (simp only [List.getElem?_toArray, List.getElem?_cons_succ, List.getElem?_cons_zero]; rfl)
              focus kernel_rfl
              focus kernel_rfl
              focus kernel_rfl
              focus exact (fun _ _ _ h => h)
              refine Or.inl ⟨?_, ?_⟩
              focus (go_simp; done)
              focus (intro w hSw; obtain ⟨_, ⟨f0, f1⟩, ⟨g0, g1⟩⟩ := hSw; (first | (go_simp; done) | (go_simp; with_reducible rfl)))
              focus assumption
              (try simp only [Act.put, List.setIfInBounds_toArray, List.set_cons_zero, List.set_cons_succ])
              refine' wpAnyH_take (i := 15) (v := _) ?_ ?_ ?_ ?_ ?_ ?_ ?_ ?_
              rotate_left 2
              focus (simp only [List.getElem?_toArray, List.getElem?_cons_succ, List.getElem?_cons_zero]; rfl)
              focus kernel_rfl
              focus kernel_rfl
              focus kernel_rfl
              focus exact (fun _ _ _ h => h)
              refine Or.inl ⟨?_, ?_⟩
              focus (go_simp; done)
              focus (intro w hSw; obtain ⟨_, ⟨f0, f1⟩, ⟨g0, g1⟩⟩ := hSw; (first | (go_simp; done) | (go_simp; with_reducible rfl)))
              focus assumption
              (try simp only [Act.put, List.setIfInBounds_toArray, List.set_cons_zero, List.set_cons_succ])
              refine' wpAnyH_take (i := 16) (v := _) ?_ ?_ ?_ ?_ ?_ ?_ ?_ ?_
              rotate_left 2
              focus (simp only [List.getElem?_toArray, List.getElem?_cons_succ, List.getElem?_cons_zero]; rfl)
              focus kernel_rfl
              focus kernel_rfl
              focus kernel_rfl
              focus exact (fun _ _ _ h => h)
              refine Or.inl ⟨?_, ?_⟩
              focus (go_simp; done)
              focus (intro w hSw; obtain ⟨_, ⟨f0, f1⟩, ⟨g0, g1⟩⟩ := hSw; (first | (go_simp; done) | (go_simp; with_reducible rfl)))
              focus assumption
              (try simp only [Act.put, List.setIfInBounds_toArray, List.set_cons_zero, List.set_cons_succ])
              refine' wpAnyH_take (i := 17) (v := _) ?_ ?_ ?_ ?_ ?_ ?_ ?_ ?_
              rotate_left 2
              focus (simp only [List.getElem?_toArray, List.getElem?_cons_succ, List.getElem?_cons_zero]; rfl)
              focus kernel_rfl
              focus kernel_rfl
              focus kernel_rfl
              focus exact (fun _ _ _ h => h)
              refine Or.inl ⟨?_, ?_⟩
              focus (go_simp; done)
              focus (intro w hSw; obtain ⟨_, ⟨f0, f1⟩, ⟨g0, g1⟩⟩ := hSw; (first | (go_simp; done) | (go_simp; with_reducible rfl)))
              focus assumption
              (try simp only [Act.put, List.setIfInBounds_toArray, List.set_cons_zero, List.set_cons_succ])
              refine' wpAnyH_take (i := 18) (v := _) ?_ ?_ ?_ ?_ ?_ ?_ ?_ ?_
              rotate_left 2
              focus (simp only [List.getElem?_toArray, List.getElem?_cons_succ, List.getElem?_cons_zero]; rfl)
              focus kernel_rfl
              focus kernel_rfl
              focus kernel_rfl
              focus exact (fun _ _ _ h => h)
              refine Or.inl ⟨?_, ?_⟩
              focus (go_simp; done)
              focus (intro w hSw; obtain ⟨_, ⟨f0, f1⟩, ⟨g0, g1⟩⟩ := hSw; (first | (go_simp; done) | (go_simp; with_reducible rfl)))
              focus assumption
              (try simp only [Act.put, List.setIfInBounds_toArray, List.set_cons_zero, List.set_cons_succ])
              refine wpAnyH_ready (rs := [3]) (by kernel_rfl) (by simp) ?_
              refine' AllReadyH.cons ?_ (fun K hK => ?_) AllReadyH.nil
              rotate_left
              focus (simp only [List.getElem?_toArray, List.getElem?_cons_succ, List.getElem?_cons_zero]; rfl)
              go_simp
              (go_at_call 41; refine (HTf.out _ hAd.1.1 HEf.out HAB.out).mono ?_; rintro e u1 ⟨A4, c4, rfl, hO4, hb⟩)
              have HO4 := Lib.hid hO4
              have HL4 := Lib.hid hAd.1.2
              clear hO4
              replace hAd := hAd.below hb; have hS := hAd.ae
              clear hb
              refine hK.out _ _ hS (fun hHeld => ?_)
              clear hK K
              (try simp only [Act.put, List.setIfInBounds_toArray, List.set_cons_zero, List.set_cons_succ])
              refine wpAnyH_ready (rs := [7]) (by kernel_rfl) (by simp) ?_
              refine' AllReadyH.cons ?_ (fun K hK => ?_) AllReadyH.nil
              rotate_left
              focus (simp only [List.getElem?_toArray, List.getElem?_cons_succ, List.getElem?_cons_zero]; rfl)
              go_simp
              (go_at_call 41; refine (HTg.out _ hAd.1.1 HEg.out HBB.out).mono ?_; rintro e u2 ⟨A5, c5, rfl, hO5, hb⟩)
              have HO5 := Lib.hid hO5
              have HO4b := Lib.hid (own_below HO4.out hb)
              clear hO5 HO4
              replace hAd := hAd.below hb; have hS := hAd.ae
              clear hb
              refine hK.out _ _ hS (fun hHeld => ?_)
              clear hK K
              (try simp only [Act.put, List.setIfInBounds_toArray, List.set_cons_zero, List.set_cons_succ])
              refine wpAnyH_ready (rs := [8]) (by kernel_rfl) (by simp) ?_
              refine' AllReadyH.cons ?_ (fun K hK => ?_) AllReadyH.nil
              rotate_left
              focus (simp only [List.getElem?_toArray, List.getElem?_cons_succ, List.getElem?_cons_zero]; rfl)
              go_simp
              have hb := (Below.refl u2.heap.size u2).alloc (Nat.le_refl _) (.cells #[.slice A4 n c4, .slice A5 m c5] 28)
              have HP4 := Lib.hid (show PrsIn (u2.alloc (.cells #[.slice A4 n c4, .slice A5 m c5] 28)) (.slice A4 n c4) (f.map (Fa.scale a)) from by have h := (show RowIn 2 u2 (.slice A4 n c4) n _ from RowIn.own HO4b.out).below hb; unfold PrsIn; rw [List.length_map, HN.out]; exact h)
              have HP5 := Lib.hid (show PrsIn (u2.alloc (.cells #[.slice A4 n c4, .slice A5 m c5] 28)) (.slice A5 m c5) (g.map (Fa.scale b)) from by have h := (show RowIn 2 u2 (.slice A5 m c5) m _ from RowIn.own HO5.out).below hb; unfold PrsIn; rw [List.length_map, HM.out]; exact h)
              have HD1 := Lib.hid (show (u2.alloc (.cells #[.slice A4 n c4, .slice A5 m c5] 28)).cell? ⟨u2.heap.size, 0, none⟩ = some (.slice A4 n c4) by go_simp)
              have HD2 := Lib.hid (show (u2.alloc (.cells #[.slice A4 n c4, .slice A5 m c5] 28)).cell? ⟨u2.heap.size, 1, none⟩ = some (.slice A5 m c5) by go_simp)
              have HDl := Lib.hid (show u2.heap.size < (u2.alloc (.cells #[.slice A4 n c4, .slice A5 m c5] 28)).heap.size by simp)
              replace hAd := hAd.below hb; have hS := hAd.ae
              clear hb
              refine hK.out _ _ hS (fun hHeld => ?_)
              generalize u2.alloc (.cells #[.slice A4 n c4, .slice A5 m c5] 28) = u3 at *
              clear hK K
              (try simp only [Act.put, List.setIfInBounds_toArray, List.set_cons_zero, List.set_cons_succ])
              refine wpAnyH_ready (rs := [9]) (by kernel_rfl) (by simp) ?_
              refine' AllReadyH.cons ?_ (fun K hK => ?_) AllReadyH.nil
              rotate_left
              focus (simp only [List.getElem?_toArray, List.getElem?_cons_succ, List.getElem?_cons_zero]; rfl)
              go_simp
              (go_at_call 40; refine (fconcat_any _ _ n m A4 A5 c4 c5 u2.heap.size u3 HP4.out HP5.out (own_snd HO4b.out) (own_snd HO5.out) (by omega) (by omega) HD1.out HD2.out HDl.out).mono ?_; rintro e u4 ⟨A6, c6, rfl, hO6, hb⟩)
              have HP6 := Lib.hid (show PrsIn u4 (.slice A6 (n + m) c6) (f.map (Fa.scale a) ++ g.map (Fa.scale b)) from by have h := (show RowIn 2 u4 (.slice A6 (n + m) c6) (n + m) _ from RowIn.own hO6); unfold PrsIn; rw [List.length_append, List.length_map, List.length_map, HN.out, HM.out]; exact h)
              clear hO6
              replace hAd := hAd.below hb; have hS := hAd.ae
              clear hb
              refine hK.out _ _ hS (fun hHeld => ?_)
              clear hK K
              (try simp only [Act.put, List.setIfInBounds_toArray, List.set_cons_zero, List.set_cons_succ])
              refine wpAnyH_ready (rs := [19]) (by kernel_rfl) (by simp) ?_
              refine' AllReadyH.cons ?_ (fun K hK => ?_) AllReadyH.nil
              rotate_left
              focus (simp only [List.getElem?_toArray, List.getElem?_cons_succ, List.getElem?_cons_zero]; rfl)
              go_simp
              (go_at_call 24; refine (fof_any _ (a * mf + b * mg) (.slice A6 (n + m) c6) r u4 HP6.out (by rw [List.length_append, List.length_map, List.length_map, HN.out, HM.out]; unfold maxLen; omega) HE.out.symm).mono ?_; rintro e u5 ⟨v9, rfl, hO9, hb⟩)
              obtain ⟨Ar, cr, hv9, _⟩ := RowIn.own hO9
              subst hv9
              have HO9 := Lib.hid hO9
              have HL9 := Lib.hid hAd.1.2
              clear hO9
              replace hAd := hAd.below hb; have hS := hAd.ae
              clear hb
              refine hK.out _ _ hS (fun hHeld => ?_)
              clear hK K
              (try simp only [Act.put, List.setIfInBounds_toArray, List.set_cons_zero, List.set_cons_succ])
              refine' wpAnyH_take (i := 20) (v := _) ?_ ?_ ?_ ?_ ?_ ?_ ?_ ?_
              rotate_left 2
              focus (simp only [List.getElem?_toArray, List.getElem?_cons_succ, List.getElem?_cons_zero]; rfl)
              focus kernel_rfl
              focus kernel_rfl
              focus kernel_rfl
              focus exact (fun _ _ _ h => h)
              refine Or.inl ⟨?_, ?_⟩
              focus (go_simp; done)
              focus (intro w hSw; obtain ⟨_, ⟨f0, f1⟩, ⟨g0, g1⟩⟩ := hSw; (first | (go_simp; done) | (go_simp; with_reducible rfl)))
              focus assumption
              (try simp only [Act.put, List.setIfInBounds_toArray, List.set_cons_zero, List.set_cons_succ])
              refine' wpAnyH_take (i := 21) (v := _) ?_ ?_ ?_ ?_ ?_ ?_ ?_ ?_
              rotate_left 2
              focus (simp only [List.getElem?_toArray, List.getElem?_cons_succ, List.getElem?_cons_zero]; rfl)
              focus kernel_rfl
              focus kernel_rfl
              focus kernel_rfl
              focus exact (fun _ _ _ h => h)
              refine Or.inl ⟨?_, ?_⟩
              focus (go_simp; done)
              focus (intro w hSw; obtain ⟨_, ⟨f0, f1⟩, ⟨g0, g1⟩⟩ := hSw; (first | (go_simp; done) | (go_simp; with_reducible rfl)))
              focus assumption
              (try simp only [Act.put, List.setIfInBounds_toArray, List.set_cons_zero, List.set_cons_succ])
              refine wpAnyH_ready (rs := [22]) (by kernel_rfl) (by simp) ?_
              refine' AllReadyH.cons ?_ (fun K hK => ?_) AllReadyH.nil
              rotate_left
              focus (simp only [List.getElem?_toArray, List.getElem?_cons_succ, List.getElem?_cons_zero]; rfl)
              obtain ⟨hbx, _, _, s0, s1, sf⟩ := id hAd
              have sf0 := sf 0
              have sf1 := sf 1
              have hl2 := hbx.lt2 (by omega)
              go_simp
              refine hK.out _ _ (hAd.ae.setR _ _) (fun hHeld => ?_)
              clear hK K
              (try simp only [Act.put, List.setIfInBounds_toArray, List.set_cons_zero, List.set_cons_succ])
              refine' wpAnyH_take (i := 23) (v := _) ?_ ?_ ?_ ?_ ?_ ?_ ?_ ?_
              rotate_left 2
              focus (simp only [List.getElem?_toArray, List.getElem?_cons_succ, List.getElem?_cons_zero]; rfl)
              focus kernel_rfl
              focus kernel_rfl
              focus kernel_rfl
              focus exact (fun _ _ _ h => h)
              refine Or.inl ⟨?_, ?_⟩
              focus (go_simp; done)
              focus (intro w hSw; obtain ⟨_, ⟨f0, f1⟩, ⟨g0, g1⟩⟩ := hSw; (first | (go_simp; done) | (go_simp; with_reducible rfl)))
              focus assumption
              (try simp only [Act.put, List.setIfInBounds_toArray, List.set_cons_zero, List.set_cons_succ])
              refine wpAnyH_done (by kernel_rfl) ?_ _
              go_wp2
              refine bodyPost_ret (v := .tuple #[.agg #[.slice Ar r.1.length cr, .int .i64 r.2.1], .int .i64 r.2.2]) ?_ rfl ⟨.slice Ar r.1.length cr, rfl, own_two HO9.out (by have := HL9.out; omega) (by have := HL9.out; omega) _ _, ((hbx.set (by omega) _).set (by omega) _).1⟩
              simp [results, Try.results23, go_sem, s0, s1, hl2]
    · have e0 : (eg != 0) = true := by simp [h2]
      have HE := Lib.hid (HR.out.symm.trans ((Fa.add_g HEf.out (by rw [HEg.out]; exact h2)).trans (by rw [HEg.out])))
      clear HR
      obtain ⟨hbx, ⟨f0, f1⟩, ⟨g0, g1⟩, r0, r1, rf⟩ := HA2.out
      have rf0 := rf 0
      have rf1 := rf 1
      go_wp2
      refine bodyPost_ret (v := .tuple #[.agg #[.slice none 0 0, .int .i64 0], .int .i64 eg]) ?_ rfl ⟨_, by rw [HE.out], by rw [HE.out]; exact World.ownsRow_nil _ _ _ _, by first | exact hbx.1 | exact ((hbx.set (by omega) _).set (by omega) _).1⟩
      simp [results, Try.results23, go_sem, r0, r1, hbx.lt2]
  · have e0 : (ef != 0) = true := by simp [h1]
    have HE := Lib.hid (HR.out.symm.trans ((Fa.add_f (by rw [HEf.out]; exact h1)).trans (by rw [HEf.out])))
    clear HR
    obtain ⟨hbx, ⟨f0, f1⟩, ⟨g0, g1⟩, r0, r1, rf⟩ := HA1.out
    have rf0 := rf 0
    have rf1 := rf 1
    go_wp2
    refine bodyPost_ret (v := .tuple #[.agg #[.slice none 0 0, .int .i64 0], .int .i64 ef]) ?_ rfl ⟨_, by rw [HE.out], by rw [HE.out]; exact World.ownsRow_nil _ _ _ _, by first | exact hbx.1 | exact ((hbx.set (by omega) _).set (by omega) _).1⟩
    simp [results, Try.results23, go_sem, r0, r1, hbx.lt2]
end Go.Proofs.Ytpinncjnfbebkaa
