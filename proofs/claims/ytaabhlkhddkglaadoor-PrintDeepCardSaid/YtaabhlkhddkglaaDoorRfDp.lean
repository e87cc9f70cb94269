/- The specification's depths of expressions, over a seat of print's. No condition. -/
import Derived.Test.YtaabhlkhddkglaaDoorPrExpr
namespace Go.Proofs.YtaabhlkhddkglaaDoor
open Go.RowKit
set_option linter.unusedVariables false
/-- The greatest depth of a list of arguments of an expression at depth d, and acc. -/
def Exs.dep : Exs → Int → Int → Int
  | .nil, _, acc => acc
  | .cons _ _ _ _ a r, d, acc => r.dep d (max acc (if 20 < d + 1 then 21 else a.dep (d + 1) (d + 1)))
def exD (a : Exs) (d : Int) : Int := if 20 < d then 21 else a.dep d d
theorem dep_bounds : ∀ (a : Exs) (d acc : Int), 1 ≤ acc → acc ≤ 21 → 1 ≤ d → 1 ≤ a.dep d acc ∧ a.dep d acc ≤ 21
  | .nil, _, acc, h0, h1, _ => ⟨h0, h1⟩
  | .cons _ _ _ _ a r, d, acc, h0, h1, hd => by
    have ha : 1 ≤ (if 20 < d + 1 then 21 else a.dep (d + 1) (d + 1)) ∧ (if 20 < d + 1 then 21 else a.dep (d + 1) (d + 1)) ≤ 21 := by
      split
      · omega
      · exact dep_bounds a (d + 1) (d + 1) (by omega) (by omega) (by omega)
    simp only [Exs.dep]
    exact dep_bounds r d _ (by omega) (by omega) hd
theorem exD_bounds (a : Exs) (d : Int) (hd : 1 ≤ d) : 1 ≤ exD a d ∧ exD a d ≤ 21 := by
  unfold exD
  split
  · omega
  · exact dep_bounds a d d (by omega) (by omega) hd
theorem dep_le : ∀ (a : Exs) (d acc : Int), d + a.height ≤ 20 → a.dep d acc ≤ max acc (d + a.height)
  | .nil, d, acc, _ => by simp only [Exs.dep, Exs.height]; omega
  | .cons _ _ _ _ a r, d, acc, h => by
    simp only [Exs.height] at h
    have h1 := dep_le a (d + 1) (d + 1) (by omega)
    simp only [Exs.dep, Exs.height]
    have h2 := dep_le r d (max acc (if 20 < d + 1 then 21 else a.dep (d + 1) (d + 1))) (by omega)
    rw [if_neg (by omega)] at h2 ⊢
    omega
theorem exD_le (a : Exs) (d : Int) (h : d + a.height ≤ 20) : exD a d ≤ d + a.height := by
  have := dep_le a d d h
  unfold exD
  rw [if_neg (by omega)]
  omega
set_option maxRecDepth 100000 in
set_option maxHeartbeats 1000000 in
theorem rdepth_any (N : Nat) : ∀ (a : Exs) (A : Option Addr) (c : Nat) (k n o d : Int) (s : ByteArray) (S : Nat → Prop) (w : World), a.height = N → a.Wf → a.len ≤ maxLen → a.At w S A → 1 ≤ d → d ≤ 21 →
    Calls Tryd.prog 24 #[.agg #[.int .i64 k, .int .i64 n, .string s, .int .i64 o, .slice A a.len c], .int .i64 d] w fun e w' => e = .returned (.int .i64 (exD a d)) ∧ Below w.heap.size w w' := by
  induction N using Nat.strongRecOn with
  | _ N ih =>
    intro a A c k n o d s S w hh hwf hlen hat h1 h21
    have IH := Lib.hid ih
    have HW := Lib.hid (And.intro hwf (And.intro hat hh))
    unfold maxLen at hlen
    clear ih hwf hat hh
    by_cases hd : 20 < d
    · have hx : exD a d = 21 := if_pos hd
      have HX := Lib.hid hx
      clear hx
      have hd' : decide (20 < d) = true := by simpa using hd
      go_enter Tryd.func24, Tryd.ntmps24
      go_wp2_with fail
      go_ret
      exact ⟨by rw [HX.out]; rfl, (Below.refl _ _).alloc (Nat.le_refl _) _⟩
    · have hx : exD a d = a.dep d d := if_neg hd
      have HX := Lib.hid hx
      have hd' : decide (20 < d) = false := by simp; omega
      have hd20 : d ≤ 20 := by omega
      obtain ⟨len, hl⟩ : ∃ len, a.len = len := ⟨_, rfl⟩
      have HL := Lib.hid hl
      rw [hl] at hlen
      rw [hl]
      clear hx hd hl
      have HMn := Lib.hid (fun (x y : Int) (W : World) => run_max2 x y W)
      have HBx := Lib.hid (Blk.new w 26 #[.int .i64 k, .int .i64 n, .string s, .int .i64 o, .slice A len c])
      go_enter Tryd.func24, Tryd.ntmps24
      go_wp2
      go_loopw [5, 6] (fun v i wr => ∃ (j : Nat) (acc : Int), j ≤ len ∧ i = .int .i64 j ∧ v = .int .i64 acc ∧ 1 ≤ acc ∧ acc ≤ 21 ∧ w.heap.size < wr.heap.size ∧
          Hid ((a.drop j).dep d acc = a.dep d d ∧ Below w.heap.size w wr ∧ Blk wr w.heap.size 26 #[.int .i64 k, .int .i64 n, .string s, .int .i64 o, .slice A len c])) (fun _ i _ => len - (intOf i).toNat)
      case atStart => exact ⟨0, d, Nat.zero_le _, rfl, rfl, by omega, by omega, by simp, Lib.hid ⟨by rw [Exs.drop_zero], (Below.refl _ _).alloc (Nat.le_refl _) _, HBx.out⟩⟩
      case round =>
        clear HBx
        obtain ⟨j, acc, hj, rfl, rfl, ha0, ha1, hsz, hR⟩ := hrel
        have b4 : wr.cell? ⟨w.heap.size, 4, none⟩ = some (.slice A len c) := hR.out.2.2.cell 4
        by_cases hlt : j < len
        · obtain ⟨b, f, k', n', s', o', a', B, c', hA, hbl, hdr, ⟨e0, e1, e2, e3, e4⟩, hc', hat'⟩ := at_elem HW.out.2.1 (by rw [HL.out]; exact hlt)
          have hb := hR.out.2.1
          have g0 := (hb.cell (p := ⟨b, f + j * 5, none⟩) hbl).trans e0
          have g1 := (hb.cell (p := ⟨b, f + j * 5 + 1, none⟩) hbl).trans e1
          have g2 := (hb.cell (p := ⟨b, f + j * 5 + 2, none⟩) hbl).trans e2
          have g3 := (hb.cell (p := ⟨b, f + j * 5 + 3, none⟩) hbl).trans e3
          have g4 := (hb.cell (p := ⟨b, f + j * 5 + 4, none⟩) hbl).trans e4
          rw [hA] at b4
          have hwf' := HW.out.1.drop j
          rw [hdr] at hwf'
          have hht : a'.height < N := by
            have := a.drop_height j
            rw [hdr] at this
            simp only [Exs.height] at this
            have := HW.out.2.2
            omega
          have hcall := IH.out a'.height hht a' B c' k' n' o' (d + 1) s' S wr rfl hwf'.2.2.2.2.2.1 hwf'.2.2.2.2.1 (hat'.below hb) (by omega) (by omega)
          have HC := Lib.hid hcall
          have hst : (a.drop (j + 1)).dep d (max acc (exD a' (d + 1))) = a.dep d d := by
            rw [← hR.out.1, hdr]
            simp only [Exs.dep, exD]
          have HST := Lib.hid hst
          have hxb := exD_bounds a' (d + 1) (by omega)
          obtain ⟨x0, x1⟩ := hxb
          clear e0 e1 e2 e3 e4 hc' hat' hdr hA hwf' hcall hst hb
          generalize exD a' (d + 1) = xw at *
          have hlt' : (j : Int) < len := by omega
          go_wp2_with fail
          refine HC.out.mono ?_
          rintro e w2 ⟨rfl, hb2⟩
          have HB2 := Lib.hid hb2
          have hsz2 := hb2.size
          have hmn := fun (W : World) => HMn.out acc xw W
          clear hb2 g0 g1 g2 g3 g4 b4
          go_wp2_with fail
          go_roundw
          case rel => exact ⟨j + 1, max acc xw, by omega, by go_num, rfl, by omega, by omega, by omega, Lib.hid ⟨HST.out, hR.out.2.1.trans (HB2.out.mono (by omega)), hR.out.2.2.below HB2.out hR.out.2.2.lt⟩⟩
          case measure => simp [intOf]; omega
        · go_wp2
          go_ret
          exact ⟨by rw [HX.out, ← hR.out.1, Exs.drop_nil _ _ (by rw [HL.out]; omega)]; rfl, hR.out.2.1⟩
theorem rdepth1_any (a : Exs) (A : Option Addr) (c : Nat) (k n o : Int) (s : ByteArray) (S : Nat → Prop) (w : World) (hwf : a.Wf) (hlen : a.len ≤ maxLen) (hat : a.At w S A) :
    Calls Tryd.prog 13 #[.agg #[.int .i64 k, .int .i64 n, .string s, .int .i64 o, .slice A a.len c]] w fun e w' => e = .returned (.int .i64 (exD a 1)) ∧ Below w.heap.size w w' := by
  have H := Lib.hid (fun (W : World) (h : Below w.heap.size w W) => rdepth_any a.height a A c k n o 1 s S W rfl hwf hlen (hat.keep h.size fun q hq hl => ⟨hq, fun f => h.cell (p := ⟨q, f, none⟩) hl⟩) (by omega) (by omega))
  have HB := Lib.hid ((Below.refl w.heap.size w).alloc (Nat.le_refl _) (.cells #[.int .i64 k, .int .i64 n, .string s, .int .i64 o, .slice A a.len c] 26))
  clear hwf hlen hat
  go_enter Tryd.func13, Tryd.ntmps13
  go_wp2_with fail
  refine (H.out _ HB.out).mono ?_
  rintro e w1 ⟨rfl, hb⟩
  have HO := Lib.hid (HB.out.trans (hb.mono (by simp)))
  clear hb
  go_wp2_with fail
  go_ret
  exact ⟨rfl, HO.out⟩
theorem dep_exact : ∀ (a : Exs) (d acc : Int), 1 ≤ d → d ≤ 20 → 1 ≤ acc → acc ≤ 21 → a.dep d acc = max acc (if a.height = 0 then acc else min 21 (d + a.height))
  | .nil, d, acc, _, _, _, _ => by simp [Exs.dep, Exs.height]
  | .cons k n s o a r, d, acc, h1, h2, h3, h4 => by
    have e : ((Exs.cons k n s o a r).height : Int) = max ((a.height : Int) + 1) (r.height : Int) := by simp only [Exs.height]; omega
    rw [if_neg (show ¬ (Exs.cons k n s o a r).height = 0 by simp only [Exs.height]; omega), e]
    simp only [Exs.dep]
    by_cases hd : 20 < d + 1
    · rw [if_pos hd, dep_exact r d (max acc 21) h1 h2 (by omega) (by omega)]
      split <;> omega
    · rw [if_neg hd, dep_exact a (d + 1) (d + 1) (by omega) (by omega) (by omega) (by omega), dep_exact r d _ h1 h2 (by split <;> omega) (by split <;> omega)]
      split <;> split <;> omega
theorem exD_eight (a : Exs) : (8 < exD a 1) ↔ 7 < a.height := by
  unfold exD
  rw [if_neg (by omega), dep_exact a 1 1 (by omega) (by omega) (by omega) (by omega)]
  split <;> omega
end Go.Proofs.YtaabhlkhddkglaaDoor
