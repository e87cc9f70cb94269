/- The specification's weights of expressions. The specification's weights of statements. -/
import Derived.Test.YtbppfhlpielpcaaDoorGnBas
import Derived.Test.YtbppfhlpielpcaaDoorGnEx
namespace Go.Proofs.YtbppfhlpielpcaaDoor
open Go.RowKit
set_option linter.unusedVariables false
def mostW : Int := 1099511627776
/-- What a list of expressions at depth d adds to acc; the weight of an expression with these arguments. -/
def Exs.add : Exs → Int → Int → Int
  | .nil, _, acc => acc
  | .cons _ _ _ _ a r, d, acc => r.add d (min mostW (acc + (if 20 < d then mostW else a.add (d + 1) 1)))
def exW (a : Exs) (d : Int) : Int := if 20 < d then mostW else a.add (d + 1) 1
theorem add_bounds : ∀ (a : Exs) (d acc : Int), 0 ≤ acc → acc ≤ mostW → 0 ≤ a.add d acc ∧ a.add d acc ≤ mostW
  | .nil, _, acc, h0, h1 => ⟨h0, h1⟩
  | .cons _ _ _ _ a r, d, acc, h0, h1 => by
    have ha : 0 ≤ (if 20 < d then mostW else a.add (d + 1) 1) := by
      split
      · unfold mostW; omega
      · exact (add_bounds a (d + 1) 1 (by omega) (by unfold mostW; omega)).1
    simp only [Exs.add]
    refine add_bounds r d _ ?_ ?_
    · unfold mostW at *; omega
    · unfold mostW; omega
theorem exW_bounds (a : Exs) (d : Int) : 0 ≤ exW a d ∧ exW a d ≤ mostW := by
  unfold exW
  split
  · unfold mostW; omega
  · exact add_bounds a _ 1 (by omega) (by unfold mostW; omega)
theorem run_min2 (a b : Int) (w : World) : (Builtin.min_ #[3, 3] 3 #[.int .i64 a, .int .i64 b]).run Tryd.prog w = .ok (.int .i64 (min a b)) w := by
  have e : (if b < a then b else a) = min a b := by rw [Int.min_def]; split <;> split <;> omega
  simp [Builtin.min_, Builtin.min2, e]
/-- Element i of a list, its cells and what lies below. -/
theorem at_elem {w : World} {S : Nat → Prop} {t : Exs} {A : Option Addr} (h : t.At w S A) {i : Nat} (hi : i < t.len) : ∃ b f k n s o a B c, A = some ⟨b, f, none⟩ ∧ b < w.heap.size ∧ t.drop i = .cons k n s o a (t.drop (i + 1)) ∧
    (w.cell? ⟨b, f + i * 5, none⟩ = some (.int .i64 k) ∧ w.cell? ⟨b, f + i * 5 + 1, none⟩ = some (.int .i64 n) ∧ w.cell? ⟨b, f + i * 5 + 2, none⟩ = some (.string s) ∧ w.cell? ⟨b, f + i * 5 + 3, none⟩ = some (.int .i64 o) ∧ w.cell? ⟨b, f + i * 5 + 4, none⟩ = some (.slice B a.len c)) ∧ a.len ≤ c ∧ a.At w S B := by
  obtain ⟨b, f, rfl⟩ := h.some (by omega)
  obtain ⟨k, n, s, o, a, e⟩ := t.drop_cons i hi
  have hd := h.drop i
  rw [e] at hd
  obtain ⟨b', f', e', hS, hlt, c0, c1, c2, c3, ⟨B, c, c4, hc, ha⟩, _⟩ := hd
  injection e' with e'
  injection e' with e1 e2
  subst e1 e2
  exact ⟨b, f, k, n, s, o, a, B, c, rfl, hlt, e, ⟨c0, c1, c2, c3, c4⟩, hc, ha⟩
set_option maxRecDepth 100000 in
set_option maxHeartbeats 1000000 in
theorem rexpr_any (N : Nat) : ∀ (a : Exs) (A : Option Addr) (c : Nat) (k n o d : Int) (s : ByteArray) (S : Nat → Prop) (w : World), a.height = N → a.Wf → a.len ≤ maxLen → a.At w S A → 1 ≤ d → d ≤ 21 →
    Calls Tryd.prog 85 #[.agg #[.int .i64 k, .int .i64 n, .string s, .int .i64 o, .slice A a.len c], .int .i64 d] w fun e w' => e = .returned (.int .i64 (exW a d)) ∧ Below w.heap.size w w' := by
  induction N using Nat.strongRecOn with
  | _ N ih =>
    intro a A c k n o d s S w hh hwf hlen hat h1 h21
    have IH := Lib.hid ih
    have HW := Lib.hid (And.intro hwf (And.intro hat hh))
    unfold maxLen at hlen
    clear ih hwf hat hh
    by_cases hd : 20 < d
    · have hx : exW a d = mostW := if_pos hd
      have HX := Lib.hid hx
      clear hx
      have hd' : decide (20 < d) = true := by simpa using hd
      go_enter Tryd.func85, Tryd.ntmps85
      go_wp2_with fail
      go_ret
      exact ⟨by rw [HX.out]; rfl, (Below.refl _ _).alloc (Nat.le_refl _) _⟩
    · have hx : exW a d = a.add (d + 1) 1 := if_neg hd
      have HX := Lib.hid hx
      have hd' : decide (20 < d) = false := by simp; omega
      have hd20 : d ≤ 20 := by omega
      obtain ⟨len, hl⟩ : ∃ len, a.len = len := ⟨_, rfl⟩
      have HL := Lib.hid hl
      rw [hl] at hlen
      rw [hl]
      clear hx hd hl
      have HMn := Lib.hid (fun (x : Int) (W : World) => run_min2 1099511627776 x W)
      have HBx := Lib.hid (Blk.new w 91 #[.int .i64 k, .int .i64 n, .string s, .int .i64 o, .slice A len c])
      go_enter Tryd.func85, Tryd.ntmps85
      go_wp2
      go_loopw [5, 6] (fun v i wr => ∃ (j : Nat) (acc : Int), j ≤ len ∧ i = .int .i64 j ∧ v = .int .i64 acc ∧ 0 ≤ acc ∧ acc ≤ 1099511627776 ∧ w.heap.size < wr.heap.size ∧
          Hid ((a.drop j).add (d + 1) acc = a.add (d + 1) 1 ∧ Below w.heap.size w wr ∧ Blk wr w.heap.size 91 #[.int .i64 k, .int .i64 n, .string s, .int .i64 o, .slice A len c])) (fun _ i _ => len - (intOf i).toNat)
      case atStart => exact ⟨0, 1, Nat.zero_le _, rfl, rfl, by omega, by omega, by simp, Lib.hid ⟨by rw [Exs.drop_zero], (Below.refl _ _).alloc (Nat.le_refl _) _, HBx.out⟩⟩
      case round =>
        clear HBx
        obtain ⟨j, acc, hj, rfl, rfl, ha0, ha1, hsz, hR⟩ := hrel
        have b4 : wr.cell? ⟨w.heap.size, 4, none⟩ = some (.slice A len c) := hR.out.2.2.cell 4
        by_cases hlt : j < len
        · obtain ⟨b, f, k', n', s', o', a', B, c', hA, hbl, hdr, ⟨e0, e1, e2, e3, e4⟩, hc', hat'⟩ := at_elem HW.out.2.1 (by rw [HL.out]; exact hlt)
          have hb := hR.out.2.1
          have g0 := (hb.cell (p := ⟨b, f + j * 5, none⟩) hbl).trans e0
          have g1 := (hb.cell (p := ⟨b, f + j * 5 + 1, none⟩) hbl).trans e1
          have g2 := (hb.cell (p := ⟨b, f + j * 5 + 2, none⟩) hbl).trans e2
          have g3 := (hb.cell (p := ⟨b, f + j * 5 + 3, none⟩) hbl).trans e3
          have g4 := (hb.cell (p := ⟨b, f + j * 5 + 4, none⟩) hbl).trans e4
          rw [hA] at b4
          have hwf' := HW.out.1.drop j
          rw [hdr] at hwf'
          have hht : a'.height < N := by
            have := a.drop_height j
            rw [hdr] at this
            simp only [Exs.height] at this
            have := HW.out.2.2
            omega
          have hcall := IH.out a'.height hht a' B c' k' n' o' (d + 1) s' S wr rfl hwf'.2.2.2.2.2.1 hwf'.2.2.2.2.1 (hat'.below hb) (by omega) (by omega)
          have HC := Lib.hid hcall
          have hst : (a.drop (j + 1)).add (d + 1) (min 1099511627776 (acc + exW a' (d + 1))) = a.add (d + 1) 1 := by
            rw [← hR.out.1, hdr]
            simp only [Exs.add, exW, mostW]
          have HST := Lib.hid hst
          have hxb := exW_bounds a' (d + 1)
          unfold mostW at hxb
          obtain ⟨x0, x1⟩ := hxb
          clear e0 e1 e2 e3 e4 hc' hat' hdr hA hwf' hcall hst hb
          generalize exW a' (d + 1) = xw at *
          have hlt' : (j : Int) < len := by omega
          go_wp2_with fail
          refine HC.out.mono ?_
          rintro e w2 ⟨rfl, hb2⟩
          have HB2 := Lib.hid hb2
          have hsz2 := hb2.size
          have hmn := fun (W : World) => HMn.out (acc + xw) W
          clear hb2 g0 g1 g2 g3 g4 b4
          go_wp2_with fail
          go_roundw
          case rel => exact ⟨j + 1, min 1099511627776 (acc + xw), by omega, by go_num, rfl, by omega, by omega, by omega, Lib.hid ⟨HST.out, hR.out.2.1.trans (HB2.out.mono (by omega)), hR.out.2.2.below HB2.out hR.out.2.2.lt⟩⟩
          case measure => simp [intOf]; omega
        · go_wp2
          go_ret
          exact ⟨by rw [HX.out, ← hR.out.1, Exs.drop_nil _ _ (by rw [HL.out]; omega)]; rfl, hR.out.2.1⟩
set_option maxRecDepth 100000 in
set_option maxHeartbeats 1000000 in
theorem rexprs_any (a : Exs) (A : Option Addr) (c : Nat) (S : Nat → Prop) (w : World) (hwf : a.Wf) (hlen : a.len ≤ maxLen) (hat : a.At w S A) :
    Calls Tryd.prog 72 #[.slice A a.len c] w fun e w' => e = .returned (.int .i64 (a.add 1 0)) ∧ Below w.heap.size w w' := by
  have HW := Lib.hid (And.intro hwf hat)
  unfold maxLen at hlen
  obtain ⟨len, hl⟩ : ∃ len, a.len = len := ⟨_, rfl⟩
  have HL := Lib.hid hl
  rw [hl] at hlen
  rw [hl]
  clear hwf hat hl
  have HMn := Lib.hid (fun (x : Int) (W : World) => run_min2 1099511627776 x W)
  go_enter Tryd.func72, Tryd.ntmps72
  go_wp2
  go_loopw [3, 4] (fun v i wr => ∃ (j : Nat) (acc : Int), j ≤ len ∧ i = .int .i64 j ∧ v = .int .i64 acc ∧ 0 ≤ acc ∧ acc ≤ 1099511627776 ∧ w.heap.size ≤ wr.heap.size ∧
      Hid ((a.drop j).add 1 acc = a.add 1 0 ∧ Below w.heap.size w wr)) (fun _ i _ => len - (intOf i).toNat)
  case atStart => exact ⟨0, 0, Nat.zero_le _, rfl, rfl, by omega, by omega, by omega, Lib.hid ⟨by rw [Exs.drop_zero], Below.refl _ _⟩⟩
  case round =>
    obtain ⟨j, acc, hj, rfl, rfl, ha0, ha1, hsz, hR⟩ := hrel
    by_cases hlt : j < len
    · obtain ⟨b, f, k', n', s', o', a', B, c', hA, hbl, hdr, ⟨e0, e1, e2, e3, e4⟩, hc', hat'⟩ := at_elem HW.out.2 (by rw [HL.out]; exact hlt)
      have hb := hR.out.2
      have g0 := (hb.cell (p := ⟨b, f + j * 5, none⟩) hbl).trans e0
      have g1 := (hb.cell (p := ⟨b, f + j * 5 + 1, none⟩) hbl).trans e1
      have g2 := (hb.cell (p := ⟨b, f + j * 5 + 2, none⟩) hbl).trans e2
      have g3 := (hb.cell (p := ⟨b, f + j * 5 + 3, none⟩) hbl).trans e3
      have g4 := (hb.cell (p := ⟨b, f + j * 5 + 4, none⟩) hbl).trans e4
      have hwf' := HW.out.1.drop j
      rw [hdr] at hwf'
      have hcall := rexpr_any a'.height a' B c' k' n' o' 1 s' S wr rfl hwf'.2.2.2.2.2.1 hwf'.2.2.2.2.1 (hat'.below hb) (by omega) (by omega)
      have HC := Lib.hid hcall
      have hst : (a.drop (j + 1)).add 1 (min 1099511627776 (acc + exW a' 1)) = a.add 1 0 := by
        rw [← hR.out.1, hdr]
        simp only [Exs.add, exW, mostW]
      have HST := Lib.hid hst
      have hxb := exW_bounds a' 1
      unfold mostW at hxb
      obtain ⟨x0, x1⟩ := hxb
      subst hA
      clear e0 e1 e2 e3 e4 hc' hat' hdr hwf' hcall hst hb
      generalize exW a' 1 = xw at *
      have hlt' : (j : Int) < len := by omega
      go_wp2_with fail
      refine HC.out.mono ?_
      rintro e w2 ⟨rfl, hb2⟩
      have HB2 := Lib.hid hb2
      have hsz2 := hb2.size
      have hmn := fun (W : World) => HMn.out (acc + xw) W
      clear hb2 g0 g1 g2 g3 g4
      go_wp2_with fail
      go_roundw
      case rel => exact ⟨j + 1, min 1099511627776 (acc + xw), by omega, by go_num, rfl, by omega, by omega, by omega, Lib.hid ⟨HST.out, hR.out.2.trans (HB2.out.mono (by omega))⟩⟩
      case measure => simp [intOf]; omega
    · go_wp2
      go_ret
      exact ⟨by rw [← hR.out.1, Exs.drop_nil _ _ (by rw [HL.out]; omega)]; rfl, hR.out.2⟩
end Go.Proofs.YtbppfhlpielpcaaDoor
namespace Go.Proofs.YtbppfhlpielpcaaDoor
open Go.RowKit
set_option linter.unusedVariables false
/-- The weight of statements at depth d, given what adding them up comes to. -/
def stW (n : Nat) (d x : Int) : Int := if n = 0 then 0 else if 20 < d then mostW else x
/-- The weight of one statement. -/
def stN (k m iw vw tw ew : Int) : Int :=
  if k = 1 ∨ k = 2 then 1 + iw + vw else if k = 3 then 2 + vw + tw + ew else if k = 4 then 2 + (max 0 (min m 33) + 1) * min mostW (2 + vw + tw) else if k = 5 then 2 + tw else 0
def Sts.wadd : Sts → Int → Int → Int
  | .nil, _, sum => sum
  | .cons k _ i v m _ t e r, d, sum => r.wadd d (min mostW (sum + stN k m (i.add 1 0) (v.add 1 0) (stW t.len (d + 1) (t.wadd (d + 1) 0)) (stW e.len (d + 1) (e.wadd (d + 1) 0))))
theorem stN_bounds {k m iw vw tw ew : Int} (hi : 0 ≤ iw ∧ iw ≤ mostW) (hv : 0 ≤ vw ∧ vw ≤ mostW) (ht : 0 ≤ tw ∧ tw ≤ mostW) (he : 0 ≤ ew ∧ ew ≤ mostW) : 0 ≤ stN k m iw vw tw ew ∧ stN k m iw vw tw ew ≤ 40 * mostW := by
  unfold mostW at *
  unfold stN mostW
  split
  · omega
  · split
    · omega
    · split
      · have h1 : 0 ≤ max 0 (min m 33) + 1 ∧ max 0 (min m 33) + 1 ≤ 34 := by omega
        have h2 : 0 ≤ min 1099511627776 (2 + vw + tw) ∧ min 1099511627776 (2 + vw + tw) ≤ 1099511627776 := by omega
        generalize max 0 (min m 33) + 1 = x at *
        generalize min 1099511627776 (2 + vw + tw) = y at *
        have h3 : 0 ≤ x * y := Int.mul_nonneg h1.1 h2.1
        have h4 : x * y ≤ 34 * 1099511627776 := Int.mul_le_mul h1.2 h2.2 h2.1 (by omega)
        omega
      · split <;> omega
theorem wadd_bounds : ∀ (l : Sts) (d sum : Int), 0 ≤ sum → sum ≤ mostW → 0 ≤ l.wadd d sum ∧ l.wadd d sum ≤ mostW
  | .nil, _, _, h0, h1 => ⟨h0, h1⟩
  | .cons k _ i v m _ t e r, d, sum, h0, h1 => by
    have hb : ∀ (t : Sts), (0 ≤ t.wadd (d + 1) 0 ∧ t.wadd (d + 1) 0 ≤ mostW) → 0 ≤ stW t.len (d + 1) (t.wadd (d + 1) 0) ∧ stW t.len (d + 1) (t.wadd (d + 1) 0) ≤ mostW := fun t h => by
      unfold stW
      split
      · unfold mostW; omega
      · split
        · unfold mostW; omega
        · exact h
    have h2 := stN_bounds (k := k) (m := m) (add_bounds i 1 0 (by omega) (by unfold mostW; omega)) (add_bounds v 1 0 (by omega) (by unfold mostW; omega)) (hb t (wadd_bounds t (d + 1) 0 (by omega) (by unfold mostW; omega))) (hb e (wadd_bounds e (d + 1) 0 (by omega) (by unfold mostW; omega)))
    simp only [Sts.wadd]
    exact wadd_bounds r d _ (by unfold mostW at *; omega) (by unfold mostW at *; omega)
theorem stW_bounds (t : Sts) (d : Int) : 0 ≤ stW t.len d (t.wadd d 0) ∧ stW t.len d (t.wadd d 0) ≤ mostW := by
  have h := wadd_bounds t d 0 (by omega) (by unfold mostW; omega)
  unfold stW
  split
  · unfold mostW; omega
  · split
    · unfold mostW; omega
    · exact h
/-- Statement i of a list, its cells and what lies below. -/
theorem sts_elem {w : World} {S : Nat → Prop} {t : Sts} {A : Option Addr} (h : t.At w S A) {j : Nat} (hj : j < t.len) : ∃ b f k s i v m l tt e B2 c2 B3 c3 B6 c6 B7 c7, A = some ⟨b, f, none⟩ ∧ b < w.heap.size ∧ t.drop j = .cons k s i v m l tt e (t.drop (j + 1)) ∧
    (w.cell? ⟨b, f + j * 8, none⟩ = some (.int .i64 k) ∧ w.cell? ⟨b, f + j * 8 + 1, none⟩ = some (.string s) ∧ w.cell? ⟨b, f + j * 8 + 2, none⟩ = some (.slice B2 i.len c2) ∧ w.cell? ⟨b, f + j * 8 + 3, none⟩ = some (.slice B3 v.len c3) ∧ w.cell? ⟨b, f + j * 8 + 4, none⟩ = some (.int .i64 m) ∧
      w.cell? ⟨b, f + j * 8 + 5, none⟩ = some (.int .i64 l) ∧ w.cell? ⟨b, f + j * 8 + 6, none⟩ = some (.slice B6 tt.len c6) ∧ w.cell? ⟨b, f + j * 8 + 7, none⟩ = some (.slice B7 e.len c7)) ∧ (i.len ≤ c2 ∧ i.At w S B2) ∧ (v.len ≤ c3 ∧ v.At w S B3) ∧ (tt.len ≤ c6 ∧ tt.At w S B6) ∧ (e.len ≤ c7 ∧ e.At w S B7) := by
  obtain ⟨b, f, rfl⟩ := h.some (by omega)
  obtain ⟨k, s, i, v, m, l, tt, e, q⟩ := t.drop_cons j hj
  have hd := h.drop j
  rw [q] at hd
  obtain ⟨b', f', e', hS, hlt, c0, c1, ⟨B2, c2, h2, l2⟩, ⟨B3, c3, h3, l3⟩, c4, c5, ⟨B6, c6, h6, l6⟩, ⟨B7, c7, h7, l7⟩, _⟩ := hd
  injection e' with e'
  injection e' with e1 e2
  subst e1 e2
  exact ⟨b, f, k, s, i, v, m, l, tt, e, B2, c2, B3, c3, B6, c6, B7, c7, rfl, hlt, q, ⟨c0, c1, h2, h3, c4, c5, h6, h7⟩, l2, l3, l6, l7⟩
end Go.Proofs.YtbppfhlpielpcaaDoor
