/- The code of layer 16: the small functions. No condition. -/
import Derived.Test.YthjolbgkancohaaMeRws
import Derived.Test.YthjolbgkancohaaMeRen
import Derived.Test.YthjolbgkancohaaGrFind
import Derived.LoopTactic
namespace Go.Proofs.Ythjolbgkancohaa
open Go.RowKit
set_option linter.unusedVariables false
set_option linter.unusedSimpArgs false
attribute [local go_sem] y_undef
theorem locks_any (A : Option Addr) (c : Nat) (l : List Gr.Op) (r : Bool) (hr : Me.lck l = r) (w : World) (ho : OpsIn w (.slice A l.length c) l) (hm : l.length ≤ 1000) :
    Calls Try.prog 141 #[.slice A l.length c] w fun e w' => e = .returned (.bool r) ∧ w' = w := by
  subst hr
  unfold Me.lck
  obtain ⟨A', c', e, ho⟩ := ho.opened
  injection e with e1 e2 e3
  subst e1 e3
  by_cases h0 : 0 < l.length
  · obtain ⟨b, off, rfl, hb, x0, -⟩ := ho 0 h0
    have h0' : (0 : Int) < (l.length : Int) := by omega
    generalize l.getD 0 Gr.op0 = o at x0 ⊢
    have x0' : w.cell? ⟨b, off, none⟩ = some (.int .i64 o.kind) := by simpa using x0
    have e1 : decide (0 < l.length) = true := by simpa using h0
    rw [e1]
    clear ho x0 e2 e1
    obtain ⟨kd, hkd⟩ : ∃ kd, o.kind = kd := ⟨_, rfl⟩
    rw [hkd] at x0' ⊢
    clear hkd
    generalize l.length = n at *
    by_cases h6 : kd = 6
    · subst h6
      go_enter Try.func141, Try.ntmps141
      go_wp2
      go_ret
      exact ⟨rfl, rfl⟩
    · have e6 : (kd == 6) = false := by simp [h6]
      have e7 : decide (kd = 6) = false := by simp [h6]
      rw [e7]
      go_enter Try.func141, Try.ntmps141
      go_wp2
      go_ret
      exact ⟨rfl, rfl⟩
  · have h0' : ¬ (0 : Int) < (l.length : Int) := by omega
    have e1 : decide (0 < l.length) = false := by simpa using h0
    rw [e1]
    clear ho e1
    generalize l.length = n at *
    go_enter Try.func141, Try.ntmps141
    go_wp2
    go_ret
    exact ⟨rfl, rfl⟩
theorem unlocks_any (A : Option Addr) (c : Nat) (l : List Gr.Op) (r : Bool) (hr : Me.unl l = r) (w : World) (ho : OpsIn w (.slice A l.length c) l) (hm : l.length ≤ 1000) :
    Calls Try.prog 140 #[.slice A l.length c] w fun e w' => e = .returned (.bool r) ∧ w' = w := by
  subst hr
  unfold Me.unl
  obtain ⟨A', c', e, ho⟩ := ho.opened
  injection e with e1 e2 e3
  subst e1 e3
  by_cases h0 : 0 < l.length
  · obtain ⟨b, off, rfl, hb, x0, -⟩ := ho (l.length - 1) (by omega)
    have e1 : decide (0 < l.length) = true := by simpa using h0
    rw [e1]
    generalize l.getD (l.length - 1) Gr.op0 = o at x0 ⊢
    obtain ⟨kd, hkd⟩ : ∃ kd, o.kind = kd := ⟨_, rfl⟩
    rw [hkd] at x0 ⊢
    clear ho hkd e1 e2
    obtain ⟨p, hp⟩ : ∃ p, l.length = p + 1 := ⟨l.length - 1, by omega⟩
    rw [hp, Nat.add_sub_cancel] at x0
    rw [hp] at h0 hm ⊢
    clear hp
    have h1 : (0 : Int) < (p : Int) + 1 := by omega
    have h2 : (0 : Int) ≤ (p : Int) := by omega
    have h3 : (p : Int) < (p : Int) + 1 := by omega
    by_cases h6 : kd = 7
    · subst h6
      have hw : wrap64 (p : Int) = (p : Int) := IntWalk.wrap64_in _ (by omega)
      go_enter Try.func140, Try.ntmps140
      go_wp2
      go_ret
      exact ⟨rfl, rfl⟩
    · have e6 : (kd == 7) = false := by simp [h6]
      have e7 : decide (kd = 7) = false := by simp [h6]
      rw [e7]
      have hw : wrap64 (p : Int) = (p : Int) := IntWalk.wrap64_in _ (by omega)
      go_enter Try.func140, Try.ntmps140
      go_wp2
      go_ret
      exact ⟨rfl, rfl⟩
  · have h0' : ¬ (0 : Int) < (l.length : Int) := by omega
    have e1 : decide (0 < l.length) = false := by simpa using h0
    rw [e1]
    clear ho e1
    generalize l.length = n at *
    go_enter Try.func140, Try.ntmps140
    go_wp2
    go_ret
    exact ⟨rfl, rfl⟩
theorem index_any (A : Option Addr) (n c : Nat) (f : Nat → Int) (x : Int) (w : World) (hv : ∀ k, k < n → ∃ b off, A = some ⟨b, off, none⟩ ∧ b < w.heap.size ∧ w.cell? ⟨b, off + k, none⟩ = some (.int .i64 (f k))) (hm : n ≤ 1000) :
    Calls Try.prog 157 #[.slice A n c, .int .i64 x] w fun e w' => ∃ z : Int, e = .returned (.int .i64 z) ∧ Fst (fun k => decide (f k = x)) n z ∧ w' = w := by
  have HV := Lib.hid hv
  clear hv
  go_enter Try.func157, Try.ntmps157
  go_wp2
  go_loop [8, 5] (fun i _ => ∃ k : Nat, k ≤ n ∧ i = .int .i64 k ∧ Hid (∀ j, j < k → decide (f j = x) = false)) (fun i _ => n - (intOf i).toNat)
  case atStart => exact ⟨0, Nat.zero_le _, rfl, Lib.hid fun j hj => absurd hj (Nat.not_lt_zero _)⟩
  case round =>
    obtain ⟨k, hk, rfl, HF⟩ := hrel
    by_cases hlt : k < n
    · have hlt' : (k : Int) < n := by omega
      have hlt0 : (0 : Int) ≤ (k : Int) := by omega
      obtain ⟨b, off, rfl, hb, hx⟩ := HV.out k hlt
      by_cases h : f k = x
      · have e : (x == f k) = true := by simp [h]
        have HX := Lib.hid (show decide (f k = x) = true by simp [h])
        clear h HV
        generalize f k = y at hx e
        go_wp2
        go_ret
        exact ⟨(k : Int), rfl, .inr ⟨k, hlt, rfl, HX.out, HF.out⟩, rfl⟩
      · have e : (x == f k) = false := by simp; exact fun e => h e.symm
        have HX := Lib.hid (show decide (f k = x) = false by simp [h])
        clear h HV
        generalize f k = y at hx e
        go_wp2
        go_round
        case rel => exact ⟨k + 1, by omega, by first | rfl | go_num, Lib.hid fun j hj => by rcases Nat.lt_succ_iff_lt_or_eq.1 hj with h | rfl; exact HF.out j h; exact HX.out⟩
        case measure => simp [intOf]; omega
    · have hlt' : ¬ (k : Int) < n := by omega
      obtain rfl : k = n := by omega
      go_wp2
      go_ret
      exact ⟨-1, rfl, .inl ⟨rfl, HF.out⟩, rfl⟩
theorem contains_any (v : Value) (l : List Int) (x : Int) (r : Bool) (hr : Me.has l x = r) (w : World) (hv : NumsIn w v l) (hm : l.length ≤ 1000) :
    Calls Try.prog 139 #[v, .int .i64 x] w fun e w' => e = .returned (.bool r) ∧ w' = w := by
  subst hr
  obtain ⟨A, c, rfl, ho⟩ := hv.opened
  have HC := Lib.hid (index_any A l.length c (fun k => l.getD k 0) x w ho hm)
  clear ho hv
  go_enter Try.func139, Try.ntmps139
  go_wp2_with fail
  refine HC.out.mono ?_
  rintro e w' ⟨z, rfl, hz, rfl⟩
  have HZ := Lib.hid (show Me.has l x = decide (0 ≤ z) from hz.any.symm)
  clear hz HC
  go_wp2
  go_ret
  exact ⟨ret_bool HZ.out.symm, rfl⟩
theorem place_any (n a b : Int) (hn : 0 ≤ n ∧ n ≤ 64) (ha : 0 ≤ a ∧ a ≤ 64) (hb : 0 ≤ b ∧ b ≤ 64) (r : Int) (hr : Me.place a b n = r) (w : World) :
    Calls Try.prog 111 #[.int .i64 n, .int .i64 a, .int .i64 b] w fun e w' => e = .returned (.int .i64 r) ∧ w' = w := by
  subst hr
  unfold Me.place
  by_cases h : n = b
  · have e : (n == b) = true := by simp [h]
    rw [if_pos h]
    by_cases h2 : a > b
    · rw [if_pos h2]
      have h3 : b < a := h2
      clear h h2
      have hw : wrap64 (a - 1) = a - 1 := IntWalk.wrap64_in _ (by omega)
      go_enter Try.func111, Try.ntmps111
      go_wp2
      go_ret
      exact ⟨rfl, rfl⟩
    · rw [if_neg h2]
      have h3 : ¬ b < a := h2
      clear h h2
      go_enter Try.func111, Try.ntmps111
      go_wp2
      go_ret
      exact ⟨rfl, rfl⟩
  · have e : (n == b) = false := by simp [h]
    rw [if_neg h]
    by_cases h2 : n > b
    · rw [if_pos h2]
      have h3 : b < n := h2
      clear h h2
      have hw : wrap64 (n - 1) = n - 1 := IntWalk.wrap64_in _ (by omega)
      go_enter Try.func111, Try.ntmps111
      go_wp2
      go_ret
      exact ⟨rfl, rfl⟩
    · rw [if_neg h2]
      have h3 : ¬ b < n := h2
      clear h h2
      go_enter Try.func111, Try.ntmps111
      go_wp2
      go_ret
      exact ⟨rfl, rfl⟩
/-- A list of which the first k elements have been changed. -/
def mx (f : Int → Int) (l : List Int) (k : Nat) : List Int := (l.take k).map f ++ l.drop k
theorem mx_len (f : Int → Int) (l : List Int) (k : Nat) : (mx f l k).length = l.length := by unfold mx; simp; omega
theorem mx_zero (f : Int → Int) (l : List Int) : mx f l 0 = l := by simp [mx]
theorem mx_all (f : Int → Int) (l : List Int) : mx f l l.length = l.map f := by simp [mx]
theorem mx_at (f : Int → Int) {l : List Int} {k : Nat} (h : k < l.length) : (mx f l k).getD k 0 = l.getD k 0 := by
  unfold mx
  rw [List.getD_eq_getElem?_getD, List.getElem?_append_right (by simp; omega)]
  simp [show k - min k l.length = 0 by omega]
theorem mx_set (f : Int → Int) {l : List Int} {k : Nat} (h : k < l.length) : (mx f l k).set k (f (l.getD k 0)) = mx f l (k + 1) := by
  have hl : ((l.take k).map f).length = k := by simp; omega
  unfold mx
  rw [List.drop_eq_getElem_cons h, List.set_append_right _ _ (by omega), hl, Nat.sub_self, List.set_cons_zero, List.take_add_one, List.getElem?_eq_getElem h, List.map_append]
  simp [List.getD, List.getElem?_eq_getElem h]
end Go.Proofs.Ythjolbgkancohaa
