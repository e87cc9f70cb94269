/- slices.IndexFunc, slices.ContainsFunc at terms, at numbers, at lists of numbers. No condition. -/
import Derived.Test.YtpinncjnfbebkaaFcBase
import Derived.Shelf.Abstract
namespace Go.Proofs.Ytpinncjnfbebkaa
open Go.RowKit
set_option linter.unusedVariables false
set_option linter.unusedSimpArgs false
attribute [local go_sem] y_undef
set_option maxHeartbeats 2000000 in
theorem idxTm_any (F : Nat) (lb : Array Value) (eF : ∀ args w, (callFunc F args).run Try.prog w = .ok (.enter F args) w) (l : Fa.Tms) (v : Value) (w : World) (p : Nat → Bool) (hv : PrsIn w v l) (hm : l.length ≤ maxLen)
    (hP : ∀ (W : World) (k : Nat), Below w.heap.size w W → k < l.length → Calls Try.prog F (#[.agg #[.int .i64 (l.getD k (0, 0)).1, .int .i64 (l.getD k (0, 0)).2]] ++ lb) W fun e w' => e = .returned (.bool (p k)) ∧ Below W.heap.size W w') :
    Calls Try.prog 57 #[v, .func (.func F) #[] lb] w fun e w' => ∃ z, e = .returned (.int .i64 z) ∧ Fst p l.length z ∧ Below w.heap.size w w' := by
  obtain ⟨A, c, rfl, ho⟩ := hv.opened
  have HO := Lib.hid ho
  have HP := Lib.hid hP
  unfold maxLen at hm
  obtain ⟨n, hn⟩ : ∃ n, l.length = n := ⟨_, rfl⟩
  rw [hn] at hm HO HP ⊢
  clear hv ho hP hn
  go_enter Try.func57, Try.ntmps57
  go_wp2
  go_loopw [5, 8] (fun _ i wr => ∃ k : Nat, k ≤ n ∧ i = .int .i64 k ∧ Hid (Below w.heap.size w wr) ∧ Hid (∀ j, j < k → p j = false)) (fun _ i _ => n - (intOf i).toNat)
  case atStart => exact ⟨0, Nat.zero_le _, rfl, Lib.hid (Below.refl _ _), Lib.hid fun j hj => absurd hj (Nat.not_lt_zero _)⟩
  case round =>
    obtain ⟨k, hk, rfl, BW, HF⟩ := hrel
    by_cases hlt : k < n
    · have hlt' : (k : Int) < n := by omega
      obtain ⟨b, off, rfl, hbb, hx, hy⟩ := HO.out k hlt
      replace hx := (BW.out.cell (p := ⟨b, off + k * 2, none⟩) hbb).trans hx
      replace hy := (BW.out.cell (p := ⟨b, off + k * 2 + 1, none⟩) hbb).trans hy
      have hcall := HP.out wr k BW.out hlt
      have HPk := Lib.hid (rfl : p k = p k)
      generalize (l.getD k (0, 0)).1 = x at *
      generalize (l.getD k (0, 0)).2 = y at *
      clear HP HO
      cases hq' : p k with
      | true =>
        rw [hq'] at hcall
        have HQ := Lib.hid hq'
        clear hq'
        go_wp2_with (go_at_fn F; refine hcall.mono ?_; rintro e w' ⟨rfl, hb'⟩)
        go_ret
        exact ⟨(k : Int), rfl, .inr ⟨k, hlt, rfl, HQ.out, HF.out⟩, BW.out.trans (hb'.mono BW.out.size)⟩
      | false =>
        rw [hq'] at hcall
        have HQ := Lib.hid hq'
        clear hq'
        go_wp2_with (go_at_fn F; refine hcall.mono ?_; rintro e w' ⟨rfl, hb'⟩)
        go_roundw
        case rel => exact ⟨k + 1, by omega, by first | rfl | go_num, Lib.hid (BW.out.trans (hb'.mono BW.out.size)), Lib.hid fun j hj => by rcases Nat.lt_succ_iff_lt_or_eq.1 hj with h | rfl; exact HF.out j h; exact HQ.out⟩
        case measure => simp [intOf]; omega
    · have hlt' : ¬ (k : Int) < n := by omega
      obtain rfl : k = n := by omega
      go_wp2
      go_ret
      exact ⟨-1, rfl, .inl ⟨rfl, HF.out⟩, BW.out⟩
theorem hasTm_any (F : Nat) (lb : Array Value) (eF : ∀ args w, (callFunc F args).run Try.prog w = .ok (.enter F args) w) (l : Fa.Tms) (v : Value) (w : World) (p : Nat → Bool) (hv : PrsIn w v l) (hm : l.length ≤ maxLen)
    (hP : ∀ (W : World) (k : Nat), Below w.heap.size w W → k < l.length → Calls Try.prog F (#[.agg #[.int .i64 (l.getD k (0, 0)).1, .int .i64 (l.getD k (0, 0)).2]] ++ lb) W fun e w' => e = .returned (.bool (p k)) ∧ Below W.heap.size W w') (r : Bool) (hr : (List.range l.length).any p = r) :
    Calls Try.prog 43 #[v, .func (.func F) #[] lb] w fun e w' => e = .returned (.bool r) ∧ Below w.heap.size w w' := by
  have HC := Lib.hid (idxTm_any F lb eF l v w p hv hm hP)
  have HR := Lib.hid hr
  clear hP hm hr hv
  go_enter Try.func43, Try.ntmps43
  go_wp2_with (go_at_call 57; refine HC.out.mono ?_; rintro e w' ⟨z, rfl, hz, hb⟩)
  go_ret
  exact ⟨ret_bool (by rw [← HR.out, ← hz.any]), hb⟩
set_option maxHeartbeats 2000000 in
theorem idxNm_any (F : Nat) (lb : Array Value) (eF : ∀ args w, (callFunc F args).run Try.prog w = .ok (.enter F args) w) (l : List Int) (v : Value) (w : World) (p : Nat → Bool) (hv : NumsIn w v l) (hm : l.length ≤ maxLen)
    (hP : ∀ (W : World) (k : Nat), Below w.heap.size w W → k < l.length → Calls Try.prog F (#[.int .i64 (l.getD k 0)] ++ lb) W fun e w' => e = .returned (.bool (p k)) ∧ Below W.heap.size W w') :
    Calls Try.prog 52 #[v, .func (.func F) #[] lb] w fun e w' => ∃ z, e = .returned (.int .i64 z) ∧ Fst p l.length z ∧ Below w.heap.size w w' := by
  obtain ⟨A, c, rfl, ho⟩ := hv.opened
  have HO := Lib.hid ho
  have HP := Lib.hid hP
  unfold maxLen at hm
  obtain ⟨n, hn⟩ : ∃ n, l.length = n := ⟨_, rfl⟩
  rw [hn] at hm HO HP ⊢
  clear hv ho hP hn
  go_enter Try.func52, Try.ntmps52
  go_wp2
  go_loopw [5, 8] (fun _ i wr => ∃ k : Nat, k ≤ n ∧ i = .int .i64 k ∧ Hid (Below w.heap.size w wr) ∧ Hid (∀ j, j < k → p j = false)) (fun _ i _ => n - (intOf i).toNat)
  case atStart => exact ⟨0, Nat.zero_le _, rfl, Lib.hid (Below.refl _ _), Lib.hid fun j hj => absurd hj (Nat.not_lt_zero _)⟩
  case round =>
    obtain ⟨k, hk, rfl, BW, HF⟩ := hrel
    by_cases hlt : k < n
    · have hlt' : (k : Int) < n := by omega
      obtain ⟨b, off, rfl, hbb, hx⟩ := HO.out k hlt
      replace hx := (BW.out.cell (p := ⟨b, off + k, none⟩) hbb).trans hx
      have hcall := HP.out wr k BW.out hlt
      have HPk := Lib.hid (rfl : p k = p k)
      generalize l.getD k 0 = x at *
      clear HP HO
      cases hq' : p k with
      | true =>
        rw [hq'] at hcall
        have HQ := Lib.hid hq'
        clear hq'
        go_wp2_with (go_at_fn F; refine hcall.mono ?_; rintro e w' ⟨rfl, hb'⟩)
        go_ret
        exact ⟨(k : Int), rfl, .inr ⟨k, hlt, rfl, HQ.out, HF.out⟩, BW.out.trans (hb'.mono BW.out.size)⟩
      | false =>
        rw [hq'] at hcall
        have HQ := Lib.hid hq'
        clear hq'
        go_wp2_with (go_at_fn F; refine hcall.mono ?_; rintro e w' ⟨rfl, hb'⟩)
        go_roundw
        case rel => exact ⟨k + 1, by omega, by first | rfl | go_num, Lib.hid (BW.out.trans (hb'.mono BW.out.size)), Lib.hid fun j hj => by rcases Nat.lt_succ_iff_lt_or_eq.1 hj with h | rfl; exact HF.out j h; exact HQ.out⟩
        case measure => simp [intOf]; omega
    · have hlt' : ¬ (k : Int) < n := by omega
      obtain rfl : k = n := by omega
      go_wp2
      go_ret
      exact ⟨-1, rfl, .inl ⟨rfl, HF.out⟩, BW.out⟩
theorem hasNm_any (F : Nat) (lb : Array Value) (eF : ∀ args w, (callFunc F args).run Try.prog w = .ok (.enter F args) w) (l : List Int) (v : Value) (w : World) (p : Nat → Bool) (hv : NumsIn w v l) (hm : l.length ≤ maxLen)
    (hP : ∀ (W : World) (k : Nat), Below w.heap.size w W → k < l.length → Calls Try.prog F (#[.int .i64 (l.getD k 0)] ++ lb) W fun e w' => e = .returned (.bool (p k)) ∧ Below W.heap.size W w') (r : Bool) (hr : (List.range l.length).any p = r) :
    Calls Try.prog 36 #[v, .func (.func F) #[] lb] w fun e w' => e = .returned (.bool r) ∧ Below w.heap.size w w' := by
  have HC := Lib.hid (idxNm_any F lb eF l v w p hv hm hP)
  have HR := Lib.hid hr
  clear hP hm hr hv
  go_enter Try.func36, Try.ntmps36
  go_wp2_with (go_at_call 52; refine HC.out.mono ?_; rintro e w' ⟨z, rfl, hz, hb⟩)
  go_ret
  exact ⟨ret_bool (by rw [← HR.out, ← hz.any]), hb⟩
set_option maxHeartbeats 2000000 in
theorem idxLs_any (F : Nat) (lb : Array Value) (eF : ∀ args w, (callFunc F args).run Try.prog w = .ok (.enter F args) w) (l : List (List Int)) (v : Value) (w : World) (p : Nat → Bool) (hv : LstsIn w v l) (hm : l.length ≤ maxLen)
    (hP : ∀ (W : World) (k : Nat) (u : Value) (hu : NumsIn W u (l.getD k [])), Below w.heap.size w W → k < l.length → Calls Try.prog F (#[u] ++ lb) W fun e w' => e = .returned (.bool (p k)) ∧ Below W.heap.size W w') :
    Calls Try.prog 63 #[v, .func (.func F) #[] lb] w fun e w' => ∃ z, e = .returned (.int .i64 z) ∧ Fst p l.length z ∧ Below w.heap.size w w' := by
  obtain ⟨A, c, rfl, ho⟩ := id hv
  have HO := Lib.hid ho
  have HP := Lib.hid hP
  unfold maxLen at hm
  obtain ⟨n, hn⟩ : ∃ n, l.length = n := ⟨_, rfl⟩
  rw [hn] at hm HO HP ⊢
  clear hv ho hP hn
  go_enter Try.func63, Try.ntmps63
  go_wp2
  go_loopw [5, 8] (fun _ i wr => ∃ k : Nat, k ≤ n ∧ i = .int .i64 k ∧ Hid (Below w.heap.size w wr) ∧ Hid (∀ j, j < k → p j = false)) (fun _ i _ => n - (intOf i).toNat)
  case atStart => exact ⟨0, Nat.zero_le _, rfl, Lib.hid (Below.refl _ _), Lib.hid fun j hj => absurd hj (Nat.not_lt_zero _)⟩
  case round =>
    obtain ⟨k, hk, rfl, BW, HF⟩ := hrel
    by_cases hlt : k < n
    · have hlt' : (k : Int) < n := by omega
      obtain ⟨b, off, u, rfl, hbb, hx, hq⟩ := HO.out k hlt
      replace hx := (BW.out.cell (p := ⟨b, off + k, none⟩) hbb).trans hx
      have hcall := HP.out wr k u (hq.below BW.out) BW.out hlt
      have HPk := Lib.hid (rfl : p k = p k)
      obtain ⟨A2, c2, rfl, _⟩ := id hq
      clear HP HO
      cases hq' : p k with
      | true =>
        rw [hq'] at hcall
        have HQ := Lib.hid hq'
        clear hq'
        go_wp2_with (go_at_fn F; refine hcall.mono ?_; rintro e w' ⟨rfl, hb'⟩)
        go_ret
        exact ⟨(k : Int), rfl, .inr ⟨k, hlt, rfl, HQ.out, HF.out⟩, BW.out.trans (hb'.mono BW.out.size)⟩
      | false =>
        rw [hq'] at hcall
        have HQ := Lib.hid hq'
        clear hq'
        go_wp2_with (go_at_fn F; refine hcall.mono ?_; rintro e w' ⟨rfl, hb'⟩)
        go_roundw
        case rel => exact ⟨k + 1, by omega, by first | rfl | go_num, Lib.hid (BW.out.trans (hb'.mono BW.out.size)), Lib.hid fun j hj => by rcases Nat.lt_succ_iff_lt_or_eq.1 hj with h | rfl; exact HF.out j h; exact HQ.out⟩
        case measure => simp [intOf]; omega
    · have hlt' : ¬ (k : Int) < n := by omega
      obtain rfl : k = n := by omega
      go_wp2
      go_ret
      exact ⟨-1, rfl, .inl ⟨rfl, HF.out⟩, BW.out⟩
theorem hasLs_any (F : Nat) (lb : Array Value) (eF : ∀ args w, (callFunc F args).run Try.prog w = .ok (.enter F args) w) (l : List (List Int)) (v : Value) (w : World) (p : Nat → Bool) (hv : LstsIn w v l) (hm : l.length ≤ maxLen)
    (hP : ∀ (W : World) (k : Nat) (u : Value) (hu : NumsIn W u (l.getD k [])), Below w.heap.size w W → k < l.length → Calls Try.prog F (#[u] ++ lb) W fun e w' => e = .returned (.bool (p k)) ∧ Below W.heap.size W w') (r : Bool) (hr : (List.range l.length).any p = r) :
    Calls Try.prog 50 #[v, .func (.func F) #[] lb] w fun e w' => e = .returned (.bool r) ∧ Below w.heap.size w w' := by
  have HC := Lib.hid (idxLs_any F lb eF l v w p hv hm hP)
  have HR := Lib.hid hr
  clear hP hm hr hv
  go_enter Try.func50, Try.ntmps50
  go_wp2_with (go_at_call 63; refine HC.out.mono ?_; rintro e w' ⟨z, rfl, hz, hb⟩)
  go_ret
  exact ⟨ret_bool (by rw [← HR.out, ← hz.any]), hb⟩
end Go.Proofs.Ytpinncjnfbebkaa
