/- The number or the sign with which a text begins, as package token finds it; and first for any text that is not empty. -/
import Derived.Test.YtbppfhlpielpcaaDoorTkFirst
namespace Go.Proofs.YtbppfhlpielpcaaDoor
open Go.RowKit Go.Maps Tk
set_option linter.unusedVariables false

theorem first_num (l : List UInt8) (h : 0 < l.length) (hl : low l[0] = false) (hd : dig l[0] = true) :
    first l = if num l ≤ 2147483647 then some (⟨2, num l, 0, []⟩, cntD l) else none := by
  match l, h, hl, hd with
  | c :: r, _, hl, hd =>
    have hl : low c = false := hl
    have hd : dig c = true := hd
    unfold first
    simp only
    rw [if_neg (by simp [hl]), if_pos hd]
theorem num_at (l : List UInt8) (k : Nat) (v : Int) (hv : v = val 0 (l.take k)) (hk : cntD l = k) : num l = v := by
  unfold num; rw [hk, hv]
set_option maxHeartbeats 800000 in
theorem firstNumber_any (s : ByteArray) (hs : s.size ≤ 281474976710656) (h0 : 0 < s.size) (hl : lowB ((s[0]'h0).toNat : Int) = false) (hd : digB ((s[0]'h0).toNat : Int) = true) (w : World) :
    Calls Tryd.prog 35 #[.string s] w fun e w' => e = .returned (firstV (first (bs s))) ∧ Below w.heap.size w w' := by
  have h0' : 0 < (bs s).length := by rw [bs_len]; exact h0
  have HF := Lib.hid (first_num (bs s) h0' hl hd)
  have HL := Lib.hid (bs_len s)
  clear hl hd h0'
  have fin : ∀ (k : Nat) (v : Int), v = val 0 ((bs s).take k) → cntD (bs s) = k → v ≤ 2147483647 → first (bs s) = some (⟨2, v, 0, []⟩, k) := fun k v hv hk h => by
    rw [HF.out, num_at _ k v hv hk, if_pos h, hk]
  have fin2 : ∀ (k : Nat) (v : Int), v = val 0 ((bs s).take k) → k ≤ cntD (bs s) → 2147483647 < v → first (bs s) = none := fun k v hv hk h => by
    have := num_ge (bs s) k hk (by omega)
    rw [HF.out, if_neg (by omega)]
  have FIN := Lib.hid fin
  have FIN2 := Lib.hid fin2
  clear fin fin2
  go_enter Tryd.func35, Tryd.ntmps35
  go_wp2
  go_loop [4, 5] (fun n i => ∃ k : Nat, k ≤ s.size ∧ i = .int .i64 k ∧ ∃ v : Int, n = .int .i64 v ∧ 0 ≤ v ∧ v ≤ 21474836479 ∧ Hid (v = val 0 ((bs s).take k)) ∧ Hid (cntD (bs s) = k + cntD ((bs s).drop k))) (fun _ i => s.size - (intOf i).toNat)
  case atStart => exact ⟨0, Nat.zero_le _, rfl, 0, rfl, by omega, by omega, Lib.hid (by simp [val]), Lib.hid (by simp)⟩
  case round =>
    obtain ⟨k, hk, rfl, v, rfl, hv0, hv1, hv, hc⟩ := hrel
    have hkc : k ≤ cntD (bs s) := by rw [hc.out]; omega
    by_cases hlt : k < s.size
    · have hlt' : k < (bs s).length := by rw [HL.out]; exact hlt
      cases hdi : digB (s[k].toNat : Int)
      · have HDi := Lib.hid hdi
        clear hdi
        have hk' : cntD (bs s) = k := by
          have di : dig ((bs s)[k]'hlt') = false := HDi.out
          rw [hc.out, cntD_stop (bs s) k hlt' di]; omega
        by_cases hg : v ≤ 2147483647
        · have HX := Lib.hid (FIN.out k v hv.out hk' hg)
          clear hk' hv hc hkc
          go_wp2_with (go_at_call 34; refine (digit_any _ false HDi.out _).mono ?_; rintro e w' ⟨rfl, rfl⟩)
          refine bodyPost_ret (v := firstV (first (bs s))) ?_ rfl ⟨rfl, (Below.refl _ w).alloc (Nat.le_refl _) _⟩
          rw [HX.out]
          simp [results, Tryd.results35, go_sem, firstV, aggV]
          rfl
        · have HX := Lib.hid (FIN2.out k v hv.out hkc (by omega))
          clear hk' hv hc hkc
          go_wp2_with (go_at_call 34; refine (digit_any _ false HDi.out _).mono ?_; rintro e w' ⟨rfl, rfl⟩)
          refine bodyPost_ret (v := firstV (first (bs s))) ?_ rfl ⟨rfl, (Below.refl _ w).alloc (Nat.le_refl _) _⟩
          rw [HX.out]
          simp [results, Tryd.results35, go_sem, firstV, aggV, zeroTok]
          rfl
      · have HDi := Lib.hid hdi
        clear hdi
        by_cases hg : v ≤ 2147483647
        · have hb := dig_ge (c := (bs s)[k]'hlt') HDi.out
          have hb1 : 48 ≤ (s[k].toNat : Int) := hb.1
          have hb2 : (s[k].toNat : Int) ≤ 57 := hb.2
          have hnext : 10 * v + ((s[k].toNat : Int) - 48) = val 0 ((bs s).take (k + 1)) := by rw [val_step (bs s) k hlt', hv.out]; rfl
          have hnc : cntD (bs s) = (k + 1 : Nat) + cntD ((bs s).drop (k + 1)) := by
            have di : dig ((bs s)[k]'hlt') = true := HDi.out
            rw [hc.out, cntD_step (bs s) k hlt' di]; omega
          have HN := Lib.hid hnext
          have HC := Lib.hid hnc
          clear hnext hnc hv hc hkc hb
          go_wp2_with (go_at_call 34; refine (digit_any _ true HDi.out _).mono ?_; rintro e w' ⟨rfl, rfl⟩)
          go_round
          case rel => exact ⟨k + 1, by omega, by go_num, 10 * v + ((s[k].toNat : Int) - 48), by go_num, by omega, by omega, HN, HC⟩
          case measure => simp [intOf]; omega
        · have HX := Lib.hid (FIN2.out k v hv.out hkc (by omega))
          clear hv hc hkc
          go_wp2_with (go_at_call 34; refine (digit_any _ true HDi.out _).mono ?_; rintro e w' ⟨rfl, rfl⟩)
          refine bodyPost_ret (v := firstV (first (bs s))) ?_ rfl ⟨rfl, (Below.refl _ w).alloc (Nat.le_refl _) _⟩
          rw [HX.out]
          simp [results, Tryd.results35, go_sem, firstV, aggV, zeroTok]
          rfl
    · have hk' : cntD (bs s) = k := by rw [hc.out, cntD_end _ _ (by rw [HL.out]; omega)]; omega
      by_cases hg : v ≤ 2147483647
      · have HX := Lib.hid (FIN.out k v hv.out hk' hg)
        clear hk' hv hc hkc
        go_wp2
        refine bodyPost_ret (v := firstV (first (bs s))) ?_ rfl ⟨rfl, (Below.refl _ w).alloc (Nat.le_refl _) _⟩
        rw [HX.out]
        simp [results, Tryd.results35, go_sem, firstV, aggV]
        rfl
      · have HX := Lib.hid (FIN2.out k v hv.out hkc (by omega))
        clear hk' hv hc hkc
        go_wp2
        refine bodyPost_ret (v := firstV (first (bs s))) ?_ rfl ⟨rfl, (Below.refl _ w).alloc (Nat.le_refl _) _⟩
        rw [HX.out]
        simp [results, Tryd.results35, go_sem, firstV, aggV, zeroTok]
        rfl
end Go.Proofs.YtbppfhlpielpcaaDoor
