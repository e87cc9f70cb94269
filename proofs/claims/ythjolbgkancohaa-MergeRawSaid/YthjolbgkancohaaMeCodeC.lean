/- The code of layer 16: a list is renumbered; whether blocks stay apart. No condition. -/
import Derived.Test.YthjolbgkancohaaMeCodeB
namespace Go.Proofs.Ythjolbgkancohaa
open Go.RowKit
set_option linter.unusedVariables false
set_option linter.unusedSimpArgs false
attribute [local go_sem] y_undef
/-- move. -/
def MovePost (base : Nat) (v : Value) (l : List Int) (f : Int → Int) (w : World) (e : Ending) (w' : World) : Prop :=
  e = .returned (.tuple #[]) ∧ w.grownBy w' v.ownBlock ∧ w'.ownsRow base 3 1 v (l.map f).length ((l.map f).map (.int .i64))
theorem move_any (base : Nat) (v : Value) (l : List Int) (a b : Int) (w : World) (hown : w.ownsRow base 3 1 v l.length (l.map (.int .i64))) (hl : ∀ x ∈ l, 0 ≤ x ∧ x ≤ 64) (hm : l.length ≤ 1000) (ha : 0 ≤ a ∧ a ≤ 64) (hb : 0 ≤ b ∧ b ≤ 64) :
    Calls Try.prog 109 #[v, .int .i64 a, .int .i64 b] w (MovePost base v l (Me.place a b) w) := by
  obtain ⟨A, C, rfl⟩ := own_eta hown
  have HL := Lib.hid hl
  have HAB := Lib.hid (And.intro ha hb)
  have HS := Lib.hid (show w.grownBy w (Value.slice A l.length C).ownBlock ∧ w.ownsRow base 3 1 (.slice A l.length C) (mx (Me.place a b) l 0).length ((mx (Me.place a b) l 0).map (.int .i64)) from ⟨World.grownBy.refl _ _, by rw [mx_zero]; exact hown⟩)
  obtain ⟨n, hn⟩ : ∃ n, l.length = n := ⟨_, rfl⟩
  have HN := Lib.hid hn
  rw [hn] at HS hm ⊢
  clear hl ha hb hown hn
  go_enter Try.func109, Try.ntmps109
  go_wp2
  go_loopw [10, 6, 7] (fun i _ _ wr => ∃ k : Nat, k ≤ n ∧ i = .int .i64 k ∧ Hid (w.grownBy wr (Value.slice A n C).ownBlock ∧ wr.ownsRow base 3 1 (.slice A n C) (mx (Me.place a b) l k).length ((mx (Me.place a b) l k).map (.int .i64)))) (fun i _ _ _ => n - (intOf i).toNat)
  case atStart => exact ⟨0, Nat.zero_le _, rfl, HS⟩
  case round =>
    clear HS
    obtain ⟨k, hk, rfl, HS⟩ := hrel
    by_cases hlt : k < n
    · have hlt' : (k : Int) < n := by omega
      have hlt0 : (0 : Int) ≤ (k : Int) := by omega
      have hkl : k < l.length := by rw [HN.out]; exact hlt
      obtain ⟨g, c, e, hg0, hg1, hc, hf⟩ := own_num HS.out.2 (i := k) (by rw [mx_len]; exact hkl)
      injection e with e1 e2 e3
      subst e1 e3
      clear e2
      have HSt := Lib.hid (show (World.setCell wr ⟨g, k, none⟩ (.int .i64 (Me.place a b (l.getD k 0)))).ownsRow base 3 1 (.slice (some ⟨g, 0, none⟩) n C) (mx (Me.place a b) l (k + 1)).length ((mx (Me.place a b) l (k + 1)).map (.int .i64)) from by
        have h := HS.out.2
        rw [mx_len, HN.out] at h
        have h2 := own_set (z := .int .i64 (Me.place a b (l.getD k 0))) h hlt
        rw [mx_len, HN.out, ← mx_set _ hkl, List.map_set]
        exact h2)
      have HGr := Lib.hid (HS.out.1.trans (grown_cell wr g k (.int .i64 (Me.place a b (l.getD k 0)))))
      rw [mx_at _ hkl] at hc
      have hx := HL.out _ (Me.getD_mem (d := (0 : Int)) hkl)
      have HPl := Lib.hid fun (W : World) => place_any (l.getD k 0) a b hx HAB.out.1 HAB.out.2 _ rfl W
      generalize l.getD k 0 = x at hc HPl HSt HGr
      clear HS hx hkl
      generalize Me.place a b x = y at HPl HSt HGr
      go_wp2_with fail
      refine (HPl.out _).mono ?_
      rintro e w' ⟨rfl, hw⟩
      obtain rfl := hw.symm
      go_wp2
      go_roundw
      case rel => exact ⟨k + 1, by omega, by first | rfl | go_num, Lib.hid ⟨HGr.out, HSt.out⟩⟩
      case measure => simp [intOf]; omega
    · have hlt' : ¬ (k : Int) < n := by omega
      obtain rfl : k = n := by omega
      have HE := Lib.hid (show wr.ownsRow base 3 1 (.slice A k C) (l.map (Me.place a b)).length ((l.map (Me.place a b)).map (.int .i64)) from by
        have h := HS.out.2
        rw [← HN.out, mx_all, HN.out] at h
        exact h)
      have HG := Lib.hid HS.out.1
      clear HS
      go_wp2
      go_end0
      exact ⟨rfl, HG.out, HE.out⟩
theorem ent_head (args : Array Value) (w : World) : (callFunc 137 args).run Try.prog w = .ok (.enter 137 args) w := enters_of Try.func137 (by kernel_rfl) rfl args w
theorem ent_both (args : Array Value) (w : World) : (callFunc 138 args).run Try.prog w = .ok (.enter 138 args) w := enters_of Try.func138 (by kernel_rfl) rfl args w
theorem head_any (x y b : Int) (B : Nat) (w : World) (hB : w.cell? ⟨B, 0, none⟩ = some (.int .i64 b)) (r : Bool) (hr : decide (x = b) = r) :
    Calls Try.prog 137 #[.agg #[.int .i64 x, .int .i64 y], .pointer (some ⟨B, 0, none⟩)] w fun e w' => e = .returned (.bool r) ∧ Below w.heap.size w w' := by
  have hlt : B < w.heap.size := World.block_lt_of_cell? w _ hB
  have HBl := Lib.hid (bla (Below.refl w.heap.size w) (.cells #[.int .i64 x, .int .i64 y] 52))
  subst hr
  by_cases h : x = b
  · have e : (x == b) = true := by simp [h]
    have e2 : decide (x = b) = true := by simp [h]
    rw [e2]
    clear h e2
    go_enter Try.func137, Try.ntmps137
    go_wp2
    go_ret
    exact ⟨rfl, HBl.out⟩
  · have e : (x == b) = false := by simp [h]
    have e2 : decide (x = b) = false := by simp [h]
    rw [e2]
    clear h e2
    go_enter Try.func137, Try.ntmps137
    go_wp2
    go_ret
    exact ⟨rfl, HBl.out⟩
theorem both_any (v : Value) (l : List Int) (a b : Int) (A1 B1 : Nat) (w : World) (hA : w.cell? ⟨A1, 0, none⟩ = some (.int .i64 a)) (hB : w.cell? ⟨B1, 0, none⟩ = some (.int .i64 b)) (hv : NumsIn w v l) (hm : l.length ≤ 1000) (r : Bool) (hr : (Me.has l a && Me.has l b) = r) :
    Calls Try.prog 138 #[v, .pointer (some ⟨A1, 0, none⟩), .pointer (some ⟨B1, 0, none⟩)] w fun e w' => e = .returned (.bool r) ∧ Below w.heap.size w w' := by
  subst hr
  have HC := Lib.hid fun (x : Int) (r : Bool) (hr : Me.has l x = r) => contains_any v l x r hr w hv hm
  obtain ⟨A, c, rfl, -⟩ := hv.opened
  clear hv
  cases h1 : Me.has l a
  · have H1 := Lib.hid h1
    clear h1
    go_enter Try.func138, Try.ntmps138
    go_wp2_with fail
    refine (HC.out _ _ H1.out).mono ?_
    rintro e w' ⟨rfl, hw⟩
    obtain rfl := hw.symm
    go_wp2
    go_ret
    exact ⟨rfl, Below.refl _ _⟩
  · cases h2 : Me.has l b
    all_goals
      have H1 := Lib.hid h1
      have H2 := Lib.hid h2
      clear h1 h2
      go_enter Try.func138, Try.ntmps138
      go_wp2_with fail
      refine (HC.out _ _ H1.out).mono ?_
      rintro e w' ⟨rfl, hw⟩
      obtain rfl := hw.symm
      go_wp2_with fail
      refine (HC.out _ _ H2.out).mono ?_
      rintro e w' ⟨rfl, hw⟩
      obtain rfl := hw.symm
      go_wp2
      go_ret
      exact ⟨rfl, Below.refl _ _⟩
end Go.Proofs.Ythjolbgkancohaa
