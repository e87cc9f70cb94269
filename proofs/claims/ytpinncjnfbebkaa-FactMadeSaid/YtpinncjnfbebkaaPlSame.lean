/- Equal lists of numbers, and equal lists of those, are found equal. No condition. -/
import Derived.Test.YtpinncjnfbebkaaFaLists
namespace Go.Proofs.Ytpinncjnfbebkaa
open Go.RowKit
set_option linter.unusedVariables false
set_option linter.unusedSimpArgs false
attribute [local go_sem] y_undef
set_option maxHeartbeats 4000000 in
theorem sameints_any (l : List Int) (v v' : Value) (w : World) (hv : NumsIn w v l) (hv' : NumsIn w v' l) (hm : l.length ≤ maxLen) :
    Calls Try.prog 47 #[v, v'] w fun e w' => e = .returned (.bool true) ∧ Below w.heap.size w w' := by
  obtain ⟨A, c, rfl, ho⟩ := hv.opened
  obtain ⟨B, d, rfl, ho'⟩ := hv'.opened
  have HO := Lib.hid ho
  have HO' := Lib.hid ho'
  unfold maxLen at hm
  clear hv hv' ho ho'
  obtain ⟨n, hn⟩ : ∃ n, l.length = n := ⟨_, rfl⟩
  rw [hn] at hm HO HO' ⊢
  clear hn
  go_enter Try.func47, Try.ntmps47
  go_wp2
  go_loopw [5] (fun i wr => ∃ k : Nat, k ≤ n ∧ i = .int .i64 k ∧ Hid (Below w.heap.size w wr)) (fun i _ => n - (intOf i).toNat)
  case atStart => exact ⟨0, Nat.zero_le _, rfl, Lib.hid (Below.refl _ _)⟩
  case round =>
    obtain ⟨k, hk, rfl, HK⟩ := hrel
    by_cases hlt : k < n
    · have hlt' : (k : Int) < n := by omega
      obtain ⟨b, off, rfl, hbb, hx⟩ := HO.out k hlt
      obtain ⟨b', off', rfl, hbb', hx'⟩ := HO'.out k hlt
      replace hx := (HK.out.cell (p := ⟨b, off + k, none⟩) hbb).trans hx
      replace hx' := (HK.out.cell (p := ⟨b', off' + k, none⟩) hbb').trans hx'
      generalize l.getD k 0 = x at *
      go_wp2
      go_quiet (fail)
      go_wp2
      go_roundw
      case rel => exact ⟨k + 1, by omega, by first | rfl | go_num, Lib.hid (HK.out.trans (below_drewN _ _ _))⟩
      case measure => simp [intOf]; omega
    · have hlt' : ¬ (k : Int) < n := by omega
      go_wp2
      go_ret
      exact ⟨rfl, HK.out⟩
set_option maxHeartbeats 4000000 in
theorem samelists_any (l : List (List Int)) (v v' : Value) (w : World) (hv : LstsIn w v l) (hv' : LstsIn w v' l) (hm : l.length ≤ maxLen) (hm2 : ∀ q ∈ l, q.length ≤ maxLen) :
    Calls Try.prog 32 #[v, v'] w fun e w' => e = .returned (.bool true) ∧ Below w.heap.size w w' := by
  obtain ⟨A, c, rfl, ho⟩ := hv
  obtain ⟨B, d, rfl, ho'⟩ := hv'
  have HO := Lib.hid ho
  have HO' := Lib.hid ho'
  have HM2 := Lib.hid fun k (hk : k < l.length) => hm2 (l.getD k []) (by simp [List.getD, List.getElem?_eq_getElem hk])
  unfold maxLen at hm
  clear ho ho' hm2
  obtain ⟨n, hn⟩ : ∃ n, l.length = n := ⟨_, rfl⟩
  rw [hn] at hm HO HO' HM2 ⊢
  clear hn
  go_enter Try.func32, Try.ntmps32
  go_wp2
  go_loopw [5] (fun i wr => ∃ k : Nat, k ≤ n ∧ i = .int .i64 k ∧ Hid (Below w.heap.size w wr)) (fun i _ => n - (intOf i).toNat)
  case atStart => exact ⟨0, Nat.zero_le _, rfl, Lib.hid (Below.refl _ _)⟩
  case round =>
    obtain ⟨k, hk, rfl, HK⟩ := hrel
    by_cases hlt : k < n
    · have hlt' : (k : Int) < n := by omega
      obtain ⟨b, off, u, rfl, hbb, hx, hq⟩ := HO.out k hlt
      obtain ⟨b', off', u', rfl, hbb', hx', hq'⟩ := HO'.out k hlt
      replace hx := (HK.out.cell (p := ⟨b, off + k, none⟩) hbb).trans hx
      replace hx' := (HK.out.cell (p := ⟨b', off' + k, none⟩) hbb').trans hx'
      have hsz := HK.out.size
      have HD := Lib.hid (show Below w.heap.size w wr.drew from HK.out.trans (below_drewN _ _ 1))
      have HQ := Lib.hid (And.intro (hq.below HD.out) (hq'.below HD.out))
      have HM := Lib.hid (HM2.out k hlt)
      obtain ⟨C, e, rfl, _⟩ := hq.opened
      obtain ⟨C', e', rfl, _⟩ := hq'.opened
      clear hq hq'
      generalize l.getD k [] = q at *
      have x1 : wr.drew.cell? ⟨b, off + k, none⟩ = some (.slice C q.length e) := hx
      have x2 : wr.drew.cell? ⟨b', off' + k, none⟩ = some (.slice C' q.length e') := hx'
      have hlb : b < wr.drew.heap.size := by simp; omega
      have hlb' : b' < wr.drew.heap.size := by simp; omega
      go_wp2_with fail
      go_region_held3 (fun w' => w'.cell? ⟨b, off + k, none⟩ = some (.slice C q.length e) ∧ w'.cell? ⟨b', off' + k, none⟩ = some (.slice C' q.length e'))
        (first | (with_reducible assumption) | exact ⟨x1, x2⟩ | exact z)
        (first | (go_at_call 47; refine (sameints_any q _ _ _ HQ.out.1 HQ.out.2 HM.out).mono ?_; rintro e w1 ⟨rfl, hb⟩; have HF := Lib.hid (HD.out.trans (hb.mono HD.out.size)); have z := And.intro ((hb.cell (p := ⟨b, off + k, none⟩) hlb).trans x1) ((hb.cell (p := ⟨b', off' + k, none⟩) hlb').trans x2); clear hb))
      go_wp2
      go_roundw
      case rel => exact ⟨k + 1, by omega, by first | rfl | go_num, by first | exact HF | exact Lib.hid (HF.out.trans (below_drewN _ _ _))⟩
      case measure => simp [intOf]; omega
    · have hlt' : ¬ (k : Int) < n := by omega
      go_wp2
      go_ret
      exact ⟨rfl, HK.out⟩
end Go.Proofs.Ytpinncjnfbebkaa
