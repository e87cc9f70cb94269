/- The law's of: an instruction of some numbers. No condition. -/
import Derived.Test.YthcjohfngnffpaaInChk
import Derived.Test.YthcjohfngnffpaaInRef
import Derived.Deep.RegionWith
import Derived.Deep.DeepCutAuto
import Derived.Deep.CutBlock
namespace Go.Proofs.Ythcjohfngnffpaa
open Go.RowKit
set_option linter.unusedVariables false
set_option linter.unusedSimpArgs false
attribute [local go_sem] y_undef
namespace In
/-- What of makes, ahead of the fault that it may put in. -/
def of0 (k a b c n : Int) : I :=
  if k % 11 = 1 then ⟨k % 11, a % 8, 0, 0, 0, n⟩ else if k % 11 = 2 then ⟨k % 11, a % 8, b % 8, 0, 0, 0⟩ else if k % 11 = 3 then ⟨k % 11, a % 8, b % 8, c % 8, 1 + c % 14, 0⟩
  else if k % 11 = 4 ∨ k % 11 = 5 then ⟨k % 11, a % 8, b % 8, 0, 0, n % 4294967296 % 1000⟩ else if k % 11 = 6 then ⟨k % 11, 0, 0, 0, 0, n % 4294967296 % 1000⟩ else if k % 11 = 7 then ⟨k % 11, a % 8, 0, 0, 0, n % 4294967296 % 1000⟩
  else if k % 11 = 8 ∨ k % 11 = 9 then ⟨k % 11, 0, 0, 0, 0, n % 4⟩ else ⟨k % 11, 0, 0, 0, 0, 0⟩
def of (k a b c n : Int) : I := if 230 < k then { of0 k a b c n with c := (of0 k a b c n).c + 1 } else of0 k a b c n
theorem of_ok (k a b c n : Int) (hn : -2147483648 ≤ n ∧ n ≤ 2147483647) : chk (of0 k a b c n) = 0 := by
  have h : kn (of0 k a b c n).k = true ∧ right (sh (of0 k a b c n).k) (of0 k a b c n) = true := by
    obtain ⟨m, hm⟩ : ∃ m, k % 11 = m := ⟨_, rfl⟩
    unfold of0
    rw [hm]
    have h0 : 0 ≤ m := by omega
    have h1 : m ≤ 10 := by omega
    clear hm
    have hk : kn m = true := by unfold kn; simp [h0, h1]
    rcases kn_cases hk with rfl | rfl | rfl | rfl | rfl | rfl | rfl | rfl | rfl | rfl | rfl <;>
      (simp [right_iff, sh, kn]; try omega)
  unfold chk
  rw [if_pos h.1, if_pos h.2]
end In
theorem of_ah {w u : World} (h : Below w.heap.size w u) : Ahead 0 w u := ⟨h, h.size⟩
theorem of_le (w : World) : w.heap.size ≤ w.heap.size + 1 + 1 := by omega
structure OfS (w : World) (z : In.I) (u : World) : Prop where
  bel : Below w.heap.size w u
  br : Bk u w.heap.size 26 #[.int .i64 0, .int .i64 0, .int .i64 0, .int .i64 0, .int .i64 0, .int .i64 0]
  bz : Bk u (w.heap.size + 1 + 1) 26 #[.int .i64 z.k, .int .i64 z.a, .int .i64 z.b, .int .i64 z.c, .int .i64 z.o, .int .i64 z.m]
theorem OfS.below {w u u' : World} {z : In.I} (h : OfS w z u) (hb : Below u.heap.size u u') : OfS w z u' := ⟨(h.bel).trans (hb.mono h.bel.size), h.br.below hb, h.bz.below hb⟩
theorem OfS.new {w : World} {x : Obj} {k a b c o m : Int} : OfS w ⟨k, a, b, c, o, m⟩ (((w.alloc (.cells #[.int .i64 0, .int .i64 0, .int .i64 0, .int .i64 0, .int .i64 0, .int .i64 0] 26)).alloc x).alloc (.cells #[.int .i64 k, .int .i64 a, .int .i64 b, .int .i64 c, .int .i64 o, .int .i64 m] 26)) :=
  ⟨((((Ahead.refl w).alloc _).alloc _).alloc _).1, ((Bk.new w _ _).below (bla (Below.refl _ _) _)).below (bla (Below.refl _ _) _), by
    have := Bk.new ((w.alloc (.cells #[.int .i64 0, .int .i64 0, .int .i64 0, .int .i64 0, .int .i64 0, .int .i64 0] 26)).alloc x) 26 #[.int .i64 k, .int .i64 a, .int .i64 b, .int .i64 c, .int .i64 o, .int .i64 m]
    rwa [size_alloc, size_alloc] at this⟩
set_option maxRecDepth 100000 in
set_option maxHeartbeats 40000000 in
theorem of_any (k a b c n : Int) (hk : 0 ≤ k ∧ k ≤ 255) (ha : 0 ≤ a ∧ a ≤ 255) (hb : 0 ≤ b ∧ b ≤ 255) (hc : 0 ≤ c ∧ c ≤ 255) (hn : -2147483648 ≤ n ∧ n ≤ 2147483647) (i : In.I) (hi : In.of k a b c n = i) (w : World) :
    Calls Try.prog 6 #[.int .u8 k, .int .u8 a, .int .u8 b, .int .u8 c, .int .i32 n] w fun e w' => e = .returned (iAgg i) ∧ Below w.heap.size w w' := by
  obtain ⟨k0, k1⟩ := hk
  obtain ⟨a0, a1⟩ := ha
  obtain ⟨b0, b1⟩ := hb
  obtain ⟨c0, c1⟩ := hc
  obtain ⟨n0, n1⟩ := hn
  have ek : wrap64 k = k := wrap64_same ⟨by omega, by omega⟩
  have ea : wrap64 a = a := wrap64_same ⟨by omega, by omega⟩
  have eb : wrap64 b = b := wrap64_same ⟨by omega, by omega⟩
  have ec : wrap64 c = c := wrap64_same ⟨by omega, by omega⟩
  have en : wrap64 n = n := wrap64_same ⟨by omega, by omega⟩
  have eo : wrap64 (1 + c % 14) = 1 + c % 14 := wrap64_same ⟨by omega, by omega⟩
  go_enter Try.func6, Try.ntmps6
  obtain ⟨m, hm⟩ : ∃ m, k % 11 = m := ⟨_, rfl⟩
  have m0 : 0 ≤ m := by omega
  have m1 : m ≤ 10 := by omega
  have hkn : In.kn m = true := by unfold In.kn; simp [m0, m1]
  have u1 : IntKind.i64.wrap (n % 4294967296 % 1000) = n % 4294967296 % 1000 := IntWalk.i64_in _ (by omega)
  have u2 : IntKind.i64.wrap (n % 4294967296 % 4) = n % 4294967296 % 4 := IntWalk.i64_in _ (by omega)
  have u3 : wrap64 (n % 4294967296 % 1000) = n % 4294967296 % 1000 := wrap64_same ⟨by omega, by omega⟩
  have u4 : wrap64 (n % 4294967296 % 4) = n % 4294967296 % 4 := wrap64_same ⟨by omega, by omega⟩
  obtain ⟨z, hz⟩ : ∃ z, In.of0 k a b c n = z := ⟨_, rfl⟩
  have hz5 : wrap64 (z.c + 1) = z.c + 1 := by
    have h := In.V.of (show In.chk z = 0 from by rw [← hz]; exact In.of_ok k a b c n ⟨n0, n1⟩)
    exact wrap64_same ⟨by have := h.c0; omega, by have := h.c1; omega⟩
  unfold In.of at hi
  rw [hz] at hi
  unfold In.of0 at hz
  have HM := Lib.hid hm
  clear m0 m1 hm
  have HI := Lib.hid hi
  clear hi
  go_upto_block 0 with fail
  go_cut [12] from 37 to 106 (fun y wc => y = .pointer (some ⟨w.heap.size + 1 + 1, 0, none⟩) ∧ Hid (OfS w z wc))
  case first =>
    clear hz5
    rcases In.kn_cases hkn with rfl | rfl | rfl | rfl | rfl | rfl | rfl | rfl | rfl | rfl | rfl
    · have hm := HM.out
      rw [if_neg (by omega), if_neg (by omega), if_neg (by omega), if_neg (by omega), if_neg (by omega), if_neg (by omega), if_neg (by omega)] at hz
      subst hz
      have q1 : (k % 11 == 1) = false := by rw [hm]; decide
      have q2 : (k % 11 == 2) = false := by rw [hm]; decide
      have q3 : (k % 11 == 3) = false := by rw [hm]; decide
      have q4 : (k % 11 == 4) = false := by rw [hm]; decide
      have q5 : (k % 11 == 5) = false := by rw [hm]; decide
      have q6 : (k % 11 == 6) = false := by rw [hm]; decide
      have q7 : (k % 11 == 7) = false := by rw [hm]; decide
      have q8 : (k % 11 == 8) = false := by rw [hm]; decide
      have q9 : (k % 11 == 9) = false := by rw [hm]; decide
      clear hkn hm
      go_wp2
      go_meet
      case rel => exact ⟨rfl, Lib.hid OfS.new⟩
    · have hm := HM.out
      rw [if_pos (by omega)] at hz
      subst hz
      have q1 : (k % 11 == 1) = true := by rw [hm]; decide
      have q2 : (k % 11 == 2) = false := by rw [hm]; decide
      have q3 : (k % 11 == 3) = false := by rw [hm]; decide
      have q4 : (k % 11 == 4) = false := by rw [hm]; decide
      have q5 : (k % 11 == 5) = false := by rw [hm]; decide
      have q6 : (k % 11 == 6) = false := by rw [hm]; decide
      have q7 : (k % 11 == 7) = false := by rw [hm]; decide
      have q8 : (k % 11 == 8) = false := by rw [hm]; decide
      have q9 : (k % 11 == 9) = false := by rw [hm]; decide
      clear hkn hm
      go_wp2_with fail
      go_region
      go_wp2
      go_meet
      case rel => exact ⟨rfl, Lib.hid (OfS.new.below (below_drewN _ _ 1))⟩
    · have hm := HM.out
      rw [if_neg (by omega), if_pos (by omega)] at hz
      subst hz
      have q1 : (k % 11 == 1) = false := by rw [hm]; decide
      have q2 : (k % 11 == 2) = true := by rw [hm]; decide
      have q3 : (k % 11 == 3) = false := by rw [hm]; decide
      have q4 : (k % 11 == 4) = false := by rw [hm]; decide
      have q5 : (k % 11 == 5) = false := by rw [hm]; decide
      have q6 : (k % 11 == 6) = false := by rw [hm]; decide
      have q7 : (k % 11 == 7) = false := by rw [hm]; decide
      have q8 : (k % 11 == 8) = false := by rw [hm]; decide
      have q9 : (k % 11 == 9) = false := by rw [hm]; decide
      clear hkn hm
      go_wp2_with fail
      go_region
      go_wp2
      go_meet
      case rel => exact ⟨rfl, Lib.hid (OfS.new.below (below_drewN _ _ 1))⟩
    · have hm := HM.out
      rw [if_neg (by omega), if_neg (by omega), if_pos (by omega)] at hz
      subst hz
      have q1 : (k % 11 == 1) = false := by rw [hm]; decide
      have q2 : (k % 11 == 2) = false := by rw [hm]; decide
      have q3 : (k % 11 == 3) = true := by rw [hm]; decide
      have q4 : (k % 11 == 4) = false := by rw [hm]; decide
      have q5 : (k % 11 == 5) = false := by rw [hm]; decide
      have q6 : (k % 11 == 6) = false := by rw [hm]; decide
      have q7 : (k % 11 == 7) = false := by rw [hm]; decide
      have q8 : (k % 11 == 8) = false := by rw [hm]; decide
      have q9 : (k % 11 == 9) = false := by rw [hm]; decide
      clear hkn hm
      go_wp2_with fail
      go_region
      go_wp2
      go_meet
      case rel => exact ⟨rfl, Lib.hid (OfS.new.below (below_drewN _ _ 1))⟩
    · have hm := HM.out
      rw [if_neg (by omega), if_neg (by omega), if_neg (by omega), if_pos (by omega)] at hz
      subst hz
      have q1 : (k % 11 == 1) = false := by rw [hm]; decide
      have q2 : (k % 11 == 2) = false := by rw [hm]; decide
      have q3 : (k % 11 == 3) = false := by rw [hm]; decide
      have q4 : (k % 11 == 4) = true := by rw [hm]; decide
      have q5 : (k % 11 == 5) = false := by rw [hm]; decide
      have q6 : (k % 11 == 6) = false := by rw [hm]; decide
      have q7 : (k % 11 == 7) = false := by rw [hm]; decide
      have q8 : (k % 11 == 8) = false := by rw [hm]; decide
      have q9 : (k % 11 == 9) = false := by rw [hm]; decide
      clear hkn hm
      go_wp2_with fail
      go_region
      go_wp2
      go_meet
      case rel => exact ⟨rfl, Lib.hid (OfS.new.below (below_drewN _ _ 1))⟩
    · have hm := HM.out
      rw [if_neg (by omega), if_neg (by omega), if_neg (by omega), if_pos (by omega)] at hz
      subst hz
      have q1 : (k % 11 == 1) = false := by rw [hm]; decide
      have q2 : (k % 11 == 2) = false := by rw [hm]; decide
      have q3 : (k % 11 == 3) = false := by rw [hm]; decide
      have q4 : (k % 11 == 4) = false := by rw [hm]; decide
      have q5 : (k % 11 == 5) = true := by rw [hm]; decide
      have q6 : (k % 11 == 6) = false := by rw [hm]; decide
      have q7 : (k % 11 == 7) = false := by rw [hm]; decide
      have q8 : (k % 11 == 8) = false := by rw [hm]; decide
      have q9 : (k % 11 == 9) = false := by rw [hm]; decide
      clear hkn hm
      go_wp2_with fail
      go_region
      go_wp2
      go_meet
      case rel => exact ⟨rfl, Lib.hid (OfS.new.below (below_drewN _ _ 1))⟩
    · have hm := HM.out
      rw [if_neg (by omega), if_neg (by omega), if_neg (by omega), if_neg (by omega), if_pos (by omega)] at hz
      subst hz
      have q1 : (k % 11 == 1) = false := by rw [hm]; decide
      have q2 : (k % 11 == 2) = false := by rw [hm]; decide
      have q3 : (k % 11 == 3) = false := by rw [hm]; decide
      have q4 : (k % 11 == 4) = false := by rw [hm]; decide
      have q5 : (k % 11 == 5) = false := by rw [hm]; decide
      have q6 : (k % 11 == 6) = true := by rw [hm]; decide
      have q7 : (k % 11 == 7) = false := by rw [hm]; decide
      have q8 : (k % 11 == 8) = false := by rw [hm]; decide
      have q9 : (k % 11 == 9) = false := by rw [hm]; decide
      clear hkn hm
      go_wp2
      go_meet
      case rel => exact ⟨rfl, Lib.hid OfS.new⟩
    · have hm := HM.out
      rw [if_neg (by omega), if_neg (by omega), if_neg (by omega), if_neg (by omega), if_neg (by omega), if_pos (by omega)] at hz
      subst hz
      have q1 : (k % 11 == 1) = false := by rw [hm]; decide
      have q2 : (k % 11 == 2) = false := by rw [hm]; decide
      have q3 : (k % 11 == 3) = false := by rw [hm]; decide
      have q4 : (k % 11 == 4) = false := by rw [hm]; decide
      have q5 : (k % 11 == 5) = false := by rw [hm]; decide
      have q6 : (k % 11 == 6) = false := by rw [hm]; decide
      have q7 : (k % 11 == 7) = true := by rw [hm]; decide
      have q8 : (k % 11 == 8) = false := by rw [hm]; decide
      have q9 : (k % 11 == 9) = false := by rw [hm]; decide
      clear hkn hm
      go_wp2
      go_meet
      case rel => exact ⟨rfl, Lib.hid OfS.new⟩
    · have hm := HM.out
      rw [if_neg (by omega), if_neg (by omega), if_neg (by omega), if_neg (by omega), if_neg (by omega), if_neg (by omega), if_pos (by omega)] at hz
      subst hz
      have q1 : (k % 11 == 1) = false := by rw [hm]; decide
      have q2 : (k % 11 == 2) = false := by rw [hm]; decide
      have q3 : (k % 11 == 3) = false := by rw [hm]; decide
      have q4 : (k % 11 == 4) = false := by rw [hm]; decide
      have q5 : (k % 11 == 5) = false := by rw [hm]; decide
      have q6 : (k % 11 == 6) = false := by rw [hm]; decide
      have q7 : (k % 11 == 7) = false := by rw [hm]; decide
      have q8 : (k % 11 == 8) = true := by rw [hm]; decide
      have q9 : (k % 11 == 9) = false := by rw [hm]; decide
      clear hkn hm
      go_wp2
      go_meet
      case rel => exact ⟨rfl, Lib.hid OfS.new⟩
    · have hm := HM.out
      rw [if_neg (by omega), if_neg (by omega), if_neg (by omega), if_neg (by omega), if_neg (by omega), if_neg (by omega), if_pos (by omega)] at hz
      subst hz
      have q1 : (k % 11 == 1) = false := by rw [hm]; decide
      have q2 : (k % 11 == 2) = false := by rw [hm]; decide
      have q3 : (k % 11 == 3) = false := by rw [hm]; decide
      have q4 : (k % 11 == 4) = false := by rw [hm]; decide
      have q5 : (k % 11 == 5) = false := by rw [hm]; decide
      have q6 : (k % 11 == 6) = false := by rw [hm]; decide
      have q7 : (k % 11 == 7) = false := by rw [hm]; decide
      have q8 : (k % 11 == 8) = false := by rw [hm]; decide
      have q9 : (k % 11 == 9) = true := by rw [hm]; decide
      clear hkn hm
      go_wp2
      go_meet
      case rel => exact ⟨rfl, Lib.hid OfS.new⟩
    · have hm := HM.out
      rw [if_neg (by omega), if_neg (by omega), if_neg (by omega), if_neg (by omega), if_neg (by omega), if_neg (by omega), if_neg (by omega)] at hz
      subst hz
      have q1 : (k % 11 == 1) = false := by rw [hm]; decide
      have q2 : (k % 11 == 2) = false := by rw [hm]; decide
      have q3 : (k % 11 == 3) = false := by rw [hm]; decide
      have q4 : (k % 11 == 4) = false := by rw [hm]; decide
      have q5 : (k % 11 == 5) = false := by rw [hm]; decide
      have q6 : (k % 11 == 6) = false := by rw [hm]; decide
      have q7 : (k % 11 == 7) = false := by rw [hm]; decide
      have q8 : (k % 11 == 8) = false := by rw [hm]; decide
      have q9 : (k % 11 == 9) = false := by rw [hm]; decide
      clear hkn hm
      go_wp2
      go_meet
      case rel => exact ⟨rfl, Lib.hid OfS.new⟩
  case rest =>
    obtain ⟨rfl, HZ⟩ := hcut
    obtain ⟨zk, za, zb, zc, zo, zm⟩ := z
    have d0 := HZ.out.bz.cell 0
    have d1 := HZ.out.bz.cell 1
    have d2 := HZ.out.bz.cell 2
    have d3 := HZ.out.bz.cell 3
    have d4 := HZ.out.bz.cell 4
    have d5 := HZ.out.bz.cell 5
    have r0 := HZ.out.br.cell 0
    have r1 := HZ.out.br.cell 1
    have r2 := HZ.out.br.cell 2
    have r3 := HZ.out.br.cell 3
    have r4 := HZ.out.br.cell 4
    have r5 := HZ.out.br.cell 5
    have f0 := HZ.out.bz.frozen
    have f1 := HZ.out.br.frozen
    have l0 := HZ.out.bz.lt
    simp at d0 d1 d2 d3 d4 d5 r0 r1 r2 r3 r4 r5
    clear ek ea eb ec en eo u1 u2 u3 u4 hz hkn
    by_cases h230 : 230 < k
    · have hI := HI.out
      rw [if_pos h230] at hI
      go_wp2
      subst hI
      refine bodyPost_ret (v := iAgg _) ?_ rfl ⟨rfl, ((((((((of_ah HZ.out.bel).set (of_le w) _).set (Nat.le_refl _) _).set (Nat.le_refl _) _).set (Nat.le_refl _) _).set (Nat.le_refl _) _).set (Nat.le_refl _) _).set (Nat.le_refl _) _).1⟩
      simp [results, Try.results6, go_sem, iAgg, r0, r1, r2, r3, r4, r5]
    · have hI := HI.out
      rw [if_neg h230] at hI
      go_wp2
      subst hI
      refine bodyPost_ret (v := iAgg _) ?_ rfl ⟨rfl, (((((((of_ah HZ.out.bel).set (Nat.le_refl _) _).set (Nat.le_refl _) _).set (Nat.le_refl _) _).set (Nat.le_refl _) _).set (Nat.le_refl _) _).set (Nat.le_refl _) _).1⟩
      simp [results, Try.results6, go_sem, iAgg, r0, r1, r2, r3, r4, r5]
end Go.Proofs.Ythcjohfngnffpaa
