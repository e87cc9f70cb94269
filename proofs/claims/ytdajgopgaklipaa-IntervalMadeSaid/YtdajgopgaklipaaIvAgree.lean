/- The laws of layer 7: agree, and IntervalRaw. No condition. -/
import Derived.Test.YtdajgopgaklipaaIvPair
import Derived.Test.YtdajgopgaklipaaIvRefF
import Derived.Test.YtdajgopgaklipaaIvRefI
import Derived.Deep.RegionWith
import Derived.Deep.RegionHeld3
namespace Go.Proofs.Ytdajgopgaklipaa
open Go.RowKit
set_option linter.unusedVariables false
set_option linter.unusedSimpArgs false
attribute [local go_sem] y_undef
/-- Nothing that was there before has turned, and these blocks are there. -/
def Lts (w : World) (gs : List Nat) (w' : World) : Prop := Below w.heap.size w w' ∧ ∀ g ∈ gs, g < w'.heap.size
theorem Lts.below {w a b : World} {gs : List Nat} (h : Lts w gs a) (hb : Below a.heap.size a b) : Lts w gs b := ⟨h.1.trans (hb.mono h.1.size), fun g hg => Nat.lt_of_lt_of_le (h.2 g hg) hb.size⟩
theorem Lts.drew {w a : World} {gs : List Nat} (h : Lts w gs a) : Lts w gs a.drew := h.below (below_drewN _ a 1)
theorem Lts.cell {w a b : World} {gs : List Nat} {g o : Nat} {u : Value} (h : Lts w gs a) (hg : g ∈ gs) (hb : Below a.heap.size a b) (hc : a.cell? ⟨g, o, none⟩ = some u) : b.cell? ⟨g, o, none⟩ = some u := (hb.cell (p := ⟨g, o, none⟩) (h.2 g hg)).trans hc
set_option maxRecDepth 100000 in
set_option maxHeartbeats 16000000 in
theorem agree_any (o n p q r s : Int) (t : Bool) (w : World) : Calls Try.prog 9 #[.int .i64 o, .bool t, .agg #[.int .i64 p, .int .i64 q], .agg #[.int .i64 r, .int .i64 s], .int .i64 n] w fun e w' => e = .returned (.bool true) ∧ Below w.heap.size w w' := by
  have hA := ((Ahead.refl w).alloc (.cells #[.int .i64 p, .int .i64 q] 23)).alloc (.cells #[.int .i64 r, .int .i64 s] 23)
  obtain ⟨z, hz⟩ : ∃ z, Iv.refine o t ⟨p, q⟩ ⟨r, s⟩ = z := ⟨_, rfl⟩
  obtain ⟨zd, hd⟩ : ∃ z, Iv.act o ⟨p, q⟩ ⟨r, s⟩ = z := ⟨_, rfl⟩
  obtain ⟨zj, hj⟩ : ∃ z, Iv.join ⟨p, q⟩ ⟨r, s⟩ = z := ⟨_, rfl⟩
  obtain ⟨zm, hm⟩ : ∃ z, Iv.meet ⟨p, q⟩ ⟨r, s⟩ = z := ⟨_, rfl⟩
  obtain ⟨zl, hl⟩ : ∃ z, Iv.leq ⟨p, q⟩ ⟨r, s⟩ = z := ⟨_, rfl⟩
  obtain ⟨zh, hh⟩ : ∃ z, Iv.has ⟨p, q⟩ n = z := ⟨_, rfl⟩
  obtain ⟨zv, hv⟩ : ∃ z, Iv.ok ⟨p, q⟩ = z := ⟨_, rfl⟩
  have HR := Lib.hid hz
  have HD := Lib.hid hd
  have HJ := Lib.hid hj
  have HM := Lib.hid hm
  have HL := Lib.hid hl
  have HH := Lib.hid hh
  have HV := Lib.hid hv
  clear hz hd hj hm hl hh hv
  have hg := iv_guard
  have e1 := iv_eql z.1.lo z.1.hi z.1.lo z.1.hi true (by simp)
  have e2 := iv_eql z.2.lo z.2.hi z.2.lo z.2.hi true (by simp)
  have e3 := iv_eql zd.lo zd.hi zd.lo zd.hi true (by simp)
  have e4 := iv_eql zj.lo zj.hi zj.lo zj.hi true (by simp)
  have e5 := iv_eql zm.lo zm.hi zm.lo zm.hi true (by simp)
  go_enter Try.func9, Try.ntmps9
  go_wp2_with fail
  refine (iRefine_any o p q r s t z HR.out _).mono ?_
  rintro e w1 ⟨rfl, hb⟩
  have c0 := hA.cell0 hb (o := 0) (u := .int .i64 p) (by simp) (by omega)
  have c1 := hA.cell0 hb (o := 1) (u := .int .i64 q) (by simp) (by omega)
  have c2 := hA.cell (k := 1) hb (o := 0) (u := .int .i64 r) (by simp) (by omega)
  have c3 := hA.cell (k := 1) hb (o := 1) (u := .int .i64 s) (by simp) (by omega)
  have hA1 := hA.below hb
  clear hb hA
  have hy0 := hA1.lt0 (by omega)
  have hy1 := hA1.lt1 (by omega)
  go_wp2_with fail
  refine (rRefine_any o p q r s t z HR.out _).mono ?_
  rintro e w2 ⟨rfl, hb⟩
  have hb' := below_in (below_in hb)
  have c0 := hA1.cell0 hb' c0 (by omega)
  have c1 := hA1.cell0 hb' c1 (by omega)
  have c2 := hA1.cell (k := 1) hb' c2 (by omega)
  have c3 := hA1.cell (k := 1) hb' c3 (by omega)
  have c4 := (hb.cell (p := ⟨w1.heap.size, 0, none⟩) (by simp; omega)).trans (show _ = some (.int .i64 z.1.lo) by simp)
  have c5 := (hb.cell (p := ⟨w1.heap.size, 1, none⟩) (by simp; omega)).trans (show _ = some (.int .i64 z.1.hi) by simp)
  have c6 := (hb.cell (p := ⟨w1.heap.size + 1, 0, none⟩) (by simp)).trans (show _ = some (.int .i64 z.2.lo) by simp)
  have c7 := (hb.cell (p := ⟨w1.heap.size + 1, 1, none⟩) (by simp)).trans (show _ = some (.int .i64 z.2.hi) by simp)
  have hL : Lts w [w.heap.size, w.heap.size + 1, w1.heap.size, w1.heap.size + 1] w2 := ⟨(hA1.below hb').1, by have h1 := hA1.2; have h2 := hb.size; simp at h2; simp; omega⟩
  clear hb hb' hA1 hy0 hy1
  have hy0 : w.heap.size < w2.heap.size := hL.2 _ (by simp)
  have hy1 : w.heap.size + 1 < w2.heap.size := hL.2 _ (by simp)
  go_wp2_with fail
  have hb2 := ((Below.refl w2.heap.size w2).alloc (Nat.le_refl _) (.cells #[.int .i64 z.1.lo, .int .i64 z.1.hi] 23)).alloc (by simp) (.cells #[.int .i64 z.2.lo, .int .i64 z.2.hi] 23)
  have c0 := hL.cell (by simp) hb2 c0
  have c1 := hL.cell (by simp) hb2 c1
  have c2 := hL.cell (by simp) hb2 c2
  have c3 := hL.cell (by simp) hb2 c3
  have c4 := hL.cell (by simp) hb2 c4
  have c5 := hL.cell (by simp) hb2 c5
  have c6 := hL.cell (by simp) hb2 c6
  have c7 := hL.cell (by simp) hb2 c7
  have c8 : ((w2.alloc (.cells #[.int .i64 z.1.lo, .int .i64 z.1.hi] 23)).alloc (.cells #[.int .i64 z.2.lo, .int .i64 z.2.hi] 23)).cell? ⟨w2.heap.size, 0, none⟩ = some (.int .i64 z.1.lo) := by simp
  have c9 : ((w2.alloc (.cells #[.int .i64 z.1.lo, .int .i64 z.1.hi] 23)).alloc (.cells #[.int .i64 z.2.lo, .int .i64 z.2.hi] 23)).cell? ⟨w2.heap.size, 1, none⟩ = some (.int .i64 z.1.hi) := by simp
  have c10 : ((w2.alloc (.cells #[.int .i64 z.1.lo, .int .i64 z.1.hi] 23)).alloc (.cells #[.int .i64 z.2.lo, .int .i64 z.2.hi] 23)).cell? ⟨w2.heap.size + 1, 0, none⟩ = some (.int .i64 z.2.lo) := by simp
  have c11 : ((w2.alloc (.cells #[.int .i64 z.1.lo, .int .i64 z.1.hi] 23)).alloc (.cells #[.int .i64 z.2.lo, .int .i64 z.2.hi] 23)).cell? ⟨w2.heap.size + 1, 1, none⟩ = some (.int .i64 z.2.hi) := by simp
  have hL2 : Lts w [w.heap.size, w.heap.size + 1, w1.heap.size, w1.heap.size + 1, w2.heap.size, w2.heap.size + 1] ((w2.alloc (.cells #[.int .i64 z.1.lo, .int .i64 z.1.hi] 23)).alloc (.cells #[.int .i64 z.2.lo, .int .i64 z.2.hi] 23)) :=
    ⟨(hL.below hb2).1, by have h := hL.2; simp at h; simp; omega⟩
  clear hL hb2 hy0 hy1
  generalize (w2.alloc (.cells #[.int .i64 z.1.lo, .int .i64 z.1.hi] 23)).alloc (.cells #[.int .i64 z.2.lo, .int .i64 z.2.hi] 23) = v at *
  generalize w2.heap.size + 1 = g4 at *
  generalize w2.heap.size = g3 at *
  generalize w1.heap.size + 1 = g2 at *
  generalize w1.heap.size = g1 at *
  first | go_region_held3 (fun w' => w'.cell? ⟨w.heap.size, 0, none⟩ = some (.int .i64 p) ∧ w'.cell? ⟨w.heap.size, 1, none⟩ = some (.int .i64 q) ∧ w'.cell? ⟨w.heap.size + 1, 0, none⟩ = some (.int .i64 r) ∧ w'.cell? ⟨w.heap.size + 1, 1, none⟩ = some (.int .i64 s) ∧ w'.cell? ⟨g1, 0, none⟩ = some (.int .i64 z.1.lo) ∧ w'.cell? ⟨g1, 1, none⟩ = some (.int .i64 z.1.hi) ∧ w'.cell? ⟨g2, 0, none⟩ = some (.int .i64 z.2.lo) ∧ w'.cell? ⟨g2, 1, none⟩ = some (.int .i64 z.2.hi) ∧ w'.cell? ⟨g3, 0, none⟩ = some (.int .i64 z.1.lo) ∧ w'.cell? ⟨g3, 1, none⟩ = some (.int .i64 z.1.hi) ∧ w'.cell? ⟨g4, 0, none⟩ = some (.int .i64 z.2.lo) ∧ w'.cell? ⟨g4, 1, none⟩ = some (.int .i64 z.2.hi) ∧ Lts w [w.heap.size, w.heap.size + 1, g1, g2, g3, g4] w')
    (first | assumption | exact ⟨by simpa using c0, by simpa using c1, by simpa using c2, by simpa using c3, by simpa using c4, by simpa using c5, by simpa using c6, by simpa using c7, by simpa using c8, by simpa using c9, by simpa using c10, by simpa using c11, hL2.drew⟩ | (go_split_ands; exact ⟨Lts.cell (by assumption) (by simp) hb (by assumption), Lts.cell (by assumption) (by simp) hb (by assumption), Lts.cell (by assumption) (by simp) hb (by assumption), Lts.cell (by assumption) (by simp) hb (by assumption), Lts.cell (by assumption) (by simp) hb (by assumption), Lts.cell (by assumption) (by simp) hb (by assumption), Lts.cell (by assumption) (by simp) hb (by assumption), Lts.cell (by assumption) (by simp) hb (by assumption), Lts.cell (by assumption) (by simp) hb (by assumption), Lts.cell (by assumption) (by simp) hb (by assumption), Lts.cell (by assumption) (by simp) hb (by assumption), Lts.cell (by assumption) (by simp) hb (by assumption), Lts.below (by assumption) hb⟩))
    (first | (go_at_call 16; (with_reducible refine (iDo_any o p q r s zd HD.out _).mono ?_); rintro e w4 ⟨rfl, hb⟩) | (go_at_call 27; (with_reducible refine (rDo_any o p q r s zd HD.out _).mono ?_); rintro e w4 ⟨rfl, hb⟩) | (go_at_call 24; (with_reducible refine (iJoin_any p q r s zj HJ.out _).mono ?_); rintro e w4 ⟨rfl, hb⟩) | (go_at_call 28; (with_reducible refine (rJoin_any p q r s zj HJ.out _).mono ?_); rintro e w4 ⟨rfl, hb⟩) | (go_at_call 25; (with_reducible refine (iMeet_any p q r s zm HM.out _).mono ?_); rintro e w4 ⟨rfl, hb⟩) | (go_at_call 29; (with_reducible refine (rMeet_any p q r s zm HM.out _).mono ?_); rintro e w4 ⟨rfl, hb⟩) | (go_at_call 22; (with_reducible refine (iLeq_any p q r s zl HL.out _).mono ?_); rintro e w4 ⟨rfl, hb⟩) | (go_at_call 30; (with_reducible refine (rLeq_any p q r s zl HL.out _).mono ?_); rintro e w4 ⟨rfl, hb⟩) | (go_at_call 19; (with_reducible refine (iHas_any p q n zh HH.out _).mono ?_); rintro e w4 ⟨rfl, hb⟩) | (go_at_call 31; (with_reducible refine (rHas_any p q n zh HH.out _).mono ?_); rintro e w4 ⟨rfl, hb⟩) | (go_at_call 20; (with_reducible refine (iValid_any p q zv HV.out _).mono ?_); rintro e w4 ⟨rfl, hb⟩) | (go_at_call 32; (with_reducible refine (rValid_any p q zv HV.out _).mono ?_); rintro e w4 ⟨rfl, hb⟩)) | fail
  go_wp2
  go_ret
  go_split_ands
  exact ⟨rfl, (by assumption : Lts w _ _).1⟩
end Go.Proofs.Ytdajgopgaklipaa
