/- The code of layer 14: what is learnt of an operation. No condition. -/
import Derived.Test.YtojnhdkclabkgaaFoCodeB
import Derived.Shelf.Abstract
import Derived.Laws.EntriesVeiled
namespace Go.Proofs.Ytojnhdkclabkgaa
open Go.RowKit Go.Maps
set_option linter.unusedVariables false
set_option linter.unusedSimpArgs false
attribute [local go_sem] y_undef
theorem ent_l1 (args : Array Value) (w : World) : (callFunc 91 args).run Try.prog w = .ok (.enter 91 args) w := enters_of Try.func91 (by kernel_rfl) rfl args w
theorem l1_any (x y d : Int) (O : Nat) (r : Bool) (hr : decide (x = d ∨ y = d) = r) (w : World) (hc : w.cell? ⟨O, 1, none⟩ = some (.int .i64 d)) : Calls Try.prog 91 #[.int .i64 x, .int .i64 y, .pointer (some ⟨O, 0, none⟩)] w fun e w' => e = .returned (.bool r) ∧ w' = w := by
  subst hr
  by_cases h1 : x = d
  · have e1 : (x == d) = true := by simp [h1]
    have e3 : decide (x = d ∨ y = d) = true := by simp [h1]
    rw [e3]
    clear h1 e3
    go_enter Try.func91, Try.ntmps91
    go_wp2
    go_ret
    exact ⟨by simp [e1], rfl⟩
  · have e1 : (x == d) = false := by simp [h1]
    by_cases h2 : y = d
    · have e2 : (y == d) = true := by simp [h2]
      have e3 : decide (x = d ∨ y = d) = true := by simp [h2]
      rw [e3]
      clear h1 h2 e3
      go_enter Try.func91, Try.ntmps91
      go_wp2
      go_ret
      exact ⟨by simp [e2], rfl⟩
    · have e2 : (y == d) = false := by simp [h2]
      have e3 : decide (x = d ∨ y = d) = false := by simp [h1, h2]
      rw [e3]
      clear h1 h2 e3
      go_enter Try.func91, Try.ntmps91
      go_wp2
      go_ret
      exact ⟨by simp [e2], rfl⟩
/-- What the map has while the loop is under way. -/
def Mid (cp : Int → Option Int) (d : Int) (left : Lit → Bool) (z : Int) : Option Int := if left (.int .i64 z) = true then cp z else Fo.cut cp d z
def Reads (D : DataW Unit) (f : Int → Option Int) : Prop := ∀ z, Wf z → Maps.has D (.int .i64 z) = (f z).isSome ∧ D.atKey (.int .i64 z) (.lit (.int .i64 0)) = .lit (.int .i64 ((f z).getD 0))
theorem mid_start {D : DataW Unit} {cp : Int → Option Int} {d : Int} (h : Reads D cp) : Reads D (Mid cp d (Maps.has D)) := fun z hz => by
  obtain ⟨h1, h2⟩ := h z hz
  unfold Mid
  cases hh : Maps.has D (.int .i64 z) with
  | true => rw [if_pos rfl]; exact ⟨by rw [← hh]; exact h1, h2⟩
  | false =>
    rw [hh] at h1
    have hn : cp z = none := by
      cases hc : cp z with
      | none => rfl
      | some x => rw [hc] at h1; cases h1
    rw [if_neg (by decide)]
    have hcut : Fo.cut cp d z = none := by unfold Fo.cut; rw [hn]; simp
    rw [hcut]
    rw [hn] at h2
    exact ⟨rfl, h2⟩
theorem mid_end {D : DataW Unit} {cp : Int → Option Int} {d : Int} {left : Lit → Bool} (h : Reads D (Mid cp d left)) (hl : ∀ kl, left kl = false) : Reads D (Fo.cut cp d) := fun z hz => by
  have := h z hz
  unfold Mid at this
  rw [if_neg (by rw [hl]; decide)] at this
  exact this
theorem same_lit (z x : Int) : (Lit.int .i64 z).sameKey (.int .i64 x) = decide (z = x) := by
  unfold Lit.sameKey
  by_cases h : z = x <;> simp [h]
theorem mid_next {cp : Int → Option Int} {d x : Int} {left : Lit → Bool} (hx : left (.int .i64 x) = true) (z : Int) : Mid cp d (fun k => left k && !k.sameKey (.int .i64 x)) z = if z = x then Fo.cut cp d x else Mid cp d left z := by
  unfold Mid
  simp only [same_lit]
  by_cases h : z = x
  · subst h; simp
  · simp [h]
theorem mid_at {D : DataW Unit} {cp : Int → Option Int} {d x c : Int} {left : Lit → Bool} (h : Reads D (Mid cp d left)) (hx : left (.int .i64 x) = true) (hw : Wf x) (hat : ∀ zd, D.atKey (.int .i64 x) zd = .lit (.int .i64 c)) (hh : Maps.has D (.int .i64 x) = true) : cp x = some c := by
  obtain ⟨h1, h2⟩ := h x hw
  have hm : Mid cp d left x = cp x := by unfold Mid; rw [if_pos hx]
  rw [hm] at h1 h2
  rw [hh] at h1
  rw [hat] at h2
  have h3 := lit_int_inj h2
  cases hc : cp x with
  | none => rw [hc] at h1; cases h1
  | some y => rw [hc] at h3; rw [h3]; rfl
theorem mid_drop {D : DataW Unit} {cp : Int → Option Int} {d x c : Int} {left : Lit → Bool} (h : Reads D (Mid cp d left)) (hx : left (.int .i64 x) = true) (hc : cp x = some c) (hd : x = d ∨ c = d) : Reads (D.del (.int .i64 x)) (Mid cp d fun k => left k && !k.sameKey (.int .i64 x)) := fun z hz => by
  have := mapf_del (d := x) h z hz
  rw [mid_next hx]
  unfold Fo.upd at this
  by_cases e : z = x
  · subst e
    rw [if_pos rfl] at this ⊢
    have hcut : Fo.cut cp d z = none := by
      unfold Fo.cut
      rw [hc]
      rcases hd with h | h
      · rw [if_pos (.inl h)]
      · rw [if_pos (.inr (by rw [h]))]
    rw [hcut]
    exact this
  · rw [if_neg e] at this ⊢
    exact this
theorem mid_stay {D : DataW Unit} {cp : Int → Option Int} {d x c : Int} {left : Lit → Bool} (h : Reads D (Mid cp d left)) (hx : left (.int .i64 x) = true) (hc : cp x = some c) (hd : ¬ (x = d ∨ c = d)) : Reads D (Mid cp d fun k => left k && !k.sameKey (.int .i64 x)) := fun z hz => by
  have := h z hz
  rw [mid_next hx]
  by_cases e : z = x
  · subst e
    rw [if_pos rfl]
    have hcut : Fo.cut cp d z = cp z := by
      unfold Fo.cut
      rw [hc, if_neg (fun hh => hd (hh.imp id (fun h => by injection h)))]
    have hm : Mid cp d left z = cp z := by unfold Mid; rw [if_pos hx]
    rw [hm] at this
    rw [hcut]
    exact this
  · rw [if_neg e]
    exact this
theorem bounds_lit {z : Int} (h : (Lit.int .i64 z).wf = true) : Wf z := by
  unfold Wf
  simpa [Lit.wf, IntKind.min, IntKind.max, IntKind.signed, IntKind.bits] using h
theorem grown_refl (w : World) (r : Option Nat) : w.grownBy w r := ⟨rfl, rfl, rfl, Nat.le_refl _, fun _ _ _ => rfl⟩
set_option maxHeartbeats 8000000 in
theorem deletefunc_any (cp : Int → Option Int) (B n O : Nat) (d : Int) (w : World) (hm : MapF w B n cp) (hc : w.cell? ⟨O, 1, none⟩ = some (.int .i64 d)) :
    Calls Try.prog 90 #[.map (some B), .func (.func 91) #[] #[.pointer (some ⟨O, 0, none⟩)]] w fun e w' => e = .returned (.tuple #[]) ∧ MapF w' B n (Fo.cut cp d) ∧ w.grownBy w' (some B) := by
  have hOB : O ≠ B := by
    rintro rfl
    obtain ⟨_, ⟨es, clock, hb, _⟩, _⟩ := hm
    simp [World.cell?, hb] at hc
  have hO : O < w.heap.size := World.block_lt_of_cell? w _ hc
  obtain ⟨D, hown, hD⟩ := hm
  have HD := Lib.hid (show Reads D cp from hD)
  have HC := Lib.hid hc
  have HOB := Lib.hid (And.intro hOB hO)
  have hBw := hown.lt
  clear hD hc hOB hO
  go_enter Try.func90, Try.ntmps90
  go_wp2_with (first | (at_range; refine wpList_range_own _ rfl _ 75 rfl 3 3 mlaw Try.underlying75 _ B n _ rfl hown ?_; intro w0 hrg0 hg0 hs0) | go_in)
  go_frame
  go_loopw [4] (fun _ wr => ∃ (left : Lit → Bool) (cnt : Nat) (D' : DataW Unit), wr.ranges Try.prog 3 (plainElem Try.prog 3) B w.heap.size n D' left cnt ∧ Hid (Reads D' (Mid cp d left)) ∧ Hid (w.grownBy wr (some B))) (fun _ wr => wr.rangeLeft B w.heap.size)
  case atStart => exact ⟨_, _, _, hrg0, Lib.hid (mid_start HD.out), Lib.hid (hg0.but _)⟩
  case round =>
    obtain ⟨left, cnt, D', hrg, HRd, HG⟩ := hrel
    clear hrg0 hg0 hs0
    go_wp2_with (first | (at_next; refine wpList_next_ranges_ii _ rfl _ rfl 3 3 .i64 .i64 mlaw Try.underlying3 Try.underlying3 B w.heap.size n _ _ _ rfl hrg ?_ ?_) | go_in)
    · intro _ hl0
      go_wp2
      go_end0
      exact ⟨rfl, ⟨_, hrg.owns, mid_end HRd.out hl0⟩, HG.out⟩
    · intro x c w1 cnt1 hwx hwc hlx hat hrg1 hlt hg1 hs1 hen
      have hxw := bounds_lit hwx
      have hcp := mid_at HRd.out hlx hxw hat (has_true_of_atKey hat)
      have HCp := Lib.hid hcp
      have HLx := Lib.hid hlx
      have hOB := HOB.out.1
      have HGn := Lib.hid (HG.out.andThen hg1 (fun j hj => by cases hj; exact Or.inl (Nat.le_refl _)))
      have hcO : w1.cell? ⟨O, 1, none⟩ = some (.int .i64 d) := (World.cell?_of_block (HGn.out.block O HOB.out.2 (fun e => HOB.out.1 (by injection e)))).trans HC.out
      have HCall := Lib.hid fun (r : Bool) (hr : decide (x = d ∨ c = d) = r) => l1_any x c d O r hr w1 hcO
      clear hcp hat hcO hlx
      by_cases h1 : x = d ∨ c = d
      · have H1 := Lib.hid h1
        have e1 : decide (x = d ∨ c = d) = true := by simp [h1]
        have E1 := Lib.hid e1
        clear h1 e1
        go_wp2_with (first | (go_at_call 91; refine (HCall.out _ E1.out).mono ?_; rintro e w' ⟨rfl, rfl⟩) | (at_delete; refine wpList_delete_ranges _ rfl _ _ 75 3 rfl 3 mlaw Try.underlying75 _ B w.heap.size n _ _ _ rfl hrg1 _ _ rfl (keyOf_int_mk Try.underlying3 hwx) ?_; intro w2 cnt2 hrg2 hle hturn; go_frame) | go_in)
        rw [strike_twice] at hrg2
        go_roundw
        case rel => exact ⟨_, cnt2, _, hrg2, Lib.hid (mid_drop HRd.out HLx.out HCp.out H1.out), Lib.hid (HGn.out.andThen hturn.grown (fun j hj => by cases hj; exact Or.inr rfl))⟩
        case measure => rw [hrg2.left_eq, hrg.left_eq]; omega
      · have H1 := Lib.hid h1
        have e1 : decide (x = d ∨ c = d) = false := by simpa using h1
        have E1 := Lib.hid e1
        clear h1 e1
        go_wp2_with (first | (go_at_call 91; refine (HCall.out _ E1.out).mono ?_; rintro e w' ⟨rfl, rfl⟩) | go_in)
        go_roundw
        case rel => exact ⟨_, cnt1, _, hrg1, Lib.hid (mid_stay HRd.out HLx.out HCp.out H1.out), HGn⟩
        case measure => rw [hrg1.left_eq, hrg.left_eq]; exact hlt
end Go.Proofs.Ytojnhdkclabkgaa
