/- The sums of counts over lists of blocks, as the specification of layer 13 has them. No condition. -/
import Derived.Test.YtpinncjnfbebkaaFaPts
import Derived.Deep.OwnRows
import Derived.Deep.RegionWith
namespace Go.Proofs.Ytpinncjnfbebkaa
open Go.RowKit
set_option linter.unusedVariables false
set_option linter.unusedSimpArgs false
attribute [local go_sem] y_undef
theorem made_row (n : Nat) : madeCells #[Value.int .i64 0] n = numRow n (fun _ => 0) := by
  apply Array.ext'
  rw [toList_madeCells_one]
  unfold numRow
  simp
  apply List.ext_getElem
  · simp
  · intro i h1 h2
    simp
theorem make_n (n : Nat) (hn : n ≤ 1000) (u : World) : (Instr.makeSlice 22 (.int .i64 (n : Int)) (.int .i64 (n : Int))).run Try.prog u = .ok (.slice (some ⟨u.heap.size, 0, none⟩) n n) (u.alloc (.cells (numRow n (fun _ => 0)) 3)) := by
  rw [run_make_row' 22 3 (.int .i64 0) 8 Try.underlying22 Try.infoInt rfl .i64 .i64 n (by omega) (by omega) u, made_row]
namespace Fa
theorem lsum_step (c : Int → Int) : ∀ (q : List Int) (j : Nat), j < q.length → lsum c (q.take (j + 1)) = lsum c (q.take j) + c (q.getD j 0)
  | [], j, h => by simp at h
  | x :: q, 0, _ => by simp [lsum]
  | x :: q, j + 1, h => by
    have ih := lsum_step c q j (by simpa using h)
    simp only [List.take_succ_cons, lsum, List.getD_cons_succ]
    rw [ih]
    omega
/-- The sums in the making. -/
def S (c : Int → Int) (l : List (List Int)) (k j i : Nat) : Int := if i < k then lsum c (l.getD i []) else if i = k then lsum c ((l.getD k []).take j) else 0
theorem S_end (c : Int → Int) (l : List (List Int)) (k : Nat) : (fun i => S c l k (l.getD k []).length i) = fun i => S c l (k + 1) 0 i := by
  funext i
  unfold S
  rw [List.take_length]
  by_cases h1 : i < k
  · rw [if_pos h1, if_pos (by omega)]
  · rw [if_neg h1]
    by_cases h2 : i = k
    · subst h2; rw [if_pos rfl, if_pos (by omega)]
    · rw [if_neg h2, if_neg (show ¬ i < k + 1 by omega)]
      split <;> rfl
end Fa
set_option maxRecDepth 100000 in
set_option maxHeartbeats 8000000 in
theorem rsums_any (l : List (List Int)) (vl : Value) (now : List Int) (vn : Value) (w : World) (hl : LstsIn w vl l) (hml : l.length ≤ 256) (hn : NumsIn w vn now) (hmn : now.length ≤ 256) (hq : ∀ q ∈ l, q.length ≤ 3 ∧ ∀ x ∈ q, 0 ≤ x ∧ x < (now.length : Int)) (hc : ∀ c ∈ now, 0 ≤ c ∧ c ≤ 14) :
    Calls Try.prog 33 #[vl, vn] w fun e w' => ∃ y, e = .returned y ∧ NumsIn w' y (l.map fun q => Fa.lsum (fun b => now.getD b.toNat 0) q) ∧ Below w.heap.size w w' := by
  obtain ⟨A, c, rfl, hol⟩ := hl
  obtain ⟨C, d, rfl, hon⟩ := hn.opened
  have HOl := Lib.hid hol
  have HOn := Lib.hid hon
  have HQ := Lib.hid fun k (hk : k < l.length) => hq (l.getD k []) (by simp [List.getD, List.getElem?_eq_getElem hk])
  have HC := Lib.hid (show ∀ b : Int, 0 ≤ now.getD b.toNat 0 ∧ now.getD b.toNat 0 ≤ 14 from fun b => Fa.getD_bds (by omega) hc _)
  obtain ⟨n, hnn⟩ : ∃ n, l.length = n := ⟨_, rfl⟩
  obtain ⟨m, hmm⟩ : ∃ m, now.length = m := ⟨_, rfl⟩
  have HN := Lib.hid hnn
  have HM := Lib.hid hmm
  rw [hnn] at hml HOl HQ
  rw [hmm] at hmn HOn
  rw [hmm] at HQ
  rw [hnn, hmm]
  clear hol hon hn hq hc hnn hmm
  obtain ⟨cc, hcc⟩ : ∃ cc : Int → Int, (fun b : Int => now.getD b.toNat 0) = cc := ⟨_, rfl⟩
  have HCC := Lib.hid hcc
  have hmk := make_n n (by omega) w
  have HB := Lib.hid (show Below w.heap.size w (w.alloc (.cells (numRow n (fun _ => 0)) 3)) ∧ Bk (w.alloc (.cells (numRow n (fun _ => 0)) 3)) w.heap.size 3 (numRow n (Fa.S cc l 0 0)) from
    ⟨(Below.refl _ _).alloc (Nat.le_refl _) _, by
      have e : (fun _ => (0 : Int)) = Fa.S cc l 0 0 := by
        funext i
        unfold Fa.S
        rw [if_neg (by omega)]
        split
        · simp [Fa.lsum]
        · rfl
      rw [← e]
      exact Bk.new _ _ _⟩)
  rw [hcc]
  clear hcc
  go_enter Try.func33, Try.ntmps33
  go_wp2
  clear hmk
  go_loopw [6] (fun i wr => ∃ k : Nat, k ≤ n ∧ i = .int .i64 k ∧ Hid (Below w.heap.size w wr ∧ Bk wr w.heap.size 3 (numRow n (Fa.S cc l k 0)))) (fun i _ => n - (intOf i).toNat)
  case atStart => exact ⟨0, Nat.zero_le _, rfl, HB⟩
  case round =>
    clear HB
    obtain ⟨k, hk, rfl, HK⟩ := hrel
    by_cases hlt : k < n
    · have hlt' : (k : Int) < n := by omega
      obtain ⟨b, off, vq, rfl, hbb, hcl, hq⟩ := HOl.out k hlt
      have hqk := HQ.out k hlt
      have HSE := Lib.hid (Fa.S_end cc l k)
      obtain ⟨q, hqe⟩ : ∃ q, l.getD k [] = q := ⟨_, rfl⟩
      have HQe := Lib.hid hqe
      rw [hqe] at hq hqk HSE
      clear hqe
      obtain ⟨E, e, rfl, hoq⟩ := hq.opened
      have HCL := Lib.hid (And.intro hbb hcl)
      have HOq := Lib.hid hoq
      have HQk := Lib.hid hqk.2
      have hq3 := hqk.1
      obtain ⟨z, hz⟩ : ∃ z, q.length = z := ⟨_, rfl⟩
      have HZ := Lib.hid hz
      rw [hz] at HOq HCL hq3 HSE
      clear hbb hcl hq hoq hqk hz
      go_wp2
      go_loopw [7] (fun i wr => ∃ j : Nat, j ≤ z ∧ i = .int .i64 j ∧ Hid (Below w.heap.size w wr ∧ Bk wr w.heap.size 3 (numRow n (Fa.S cc l k j)))) (fun i _ => z - (intOf i).toNat)
      case atStart => exact ⟨0, Nat.zero_le _, rfl, HK⟩
      case round =>
        clear HK
        obtain ⟨j, hj, rfl, HJ⟩ := hrel
        have hcl := (HJ.out.1.cell (p := ⟨b, off + k, none⟩) HCL.out.1).trans HCL.out.2
        by_cases hlj : j < z
        · have hlj' : (j : Int) < z := by omega
          obtain ⟨b3, off3, rfl, hb3, hx⟩ := HOq.out j hlj
          replace hx := (HJ.out.1.cell (p := ⟨b3, off3 + j, none⟩) hb3).trans hx
          have hxm := HQk.out (q.getD j 0) (Fa.getD_in (by rw [HZ.out]; exact hlj) 0)
          have hst := Fa.lsum_step cc q j (by rw [HZ.out]; exact hlj)
          generalize q.getD j 0 = x at hx hxm hst
          obtain ⟨xn, rfl⟩ := Int.eq_ofNat_of_zero_le hxm.1
          have hxn : xn < m := by omega
          have hxn' : (0 : Int) ≤ xn ∧ (xn : Int) < m := by omega
          obtain ⟨b4, off4, rfl, hb4, hv⟩ := HOn.out xn hxn
          replace hv := (HJ.out.1.cell (p := ⟨b4, off4 + xn, none⟩) hb4).trans hv
          have hcv := HC.out (xn : Int)
          have ecv : cc (xn : Int) = now.getD xn 0 := by rw [← HCC.out]; simp
          have e4 : ((xn : Nat) : Int).toNat = xn := by omega
          rw [e4] at hcv
          rw [ecv] at hst
          generalize now.getD xn 0 = s at hv hcv hst
          have hcur := (HJ.out.2.cell k).trans (numRow_at n _ k hlt)
          have hfr := HJ.out.2.frozen k
          have eS : Fa.S cc l k j k = Fa.lsum cc (q.take j) := by unfold Fa.S; rw [if_neg (by omega), if_pos rfl, HQe.out]
          rw [eS] at hcur
          have hbs := Fa.lsum_bds (c := cc) (K := 14) (fun b => by rw [← HCC.out]; exact HC.out b) (q.take j)
          have hlen : (q.take j).length ≤ 3 := by have := HZ.out; simp; omega
          have HF := Lib.hid (show ∀ i : Nat, Fa.S cc l k (j + 1) i = if i = k then Fa.lsum cc (q.take j) + s else Fa.S cc l k j i from fun i => by
            unfold Fa.S
            by_cases h1 : i < k
            · rw [if_pos h1, if_neg (by omega), if_pos h1]
            · rw [if_neg h1]
              by_cases h2 : i = k
              · rw [if_pos h2, if_pos h2, HQe.out, hst]
              · rw [if_neg h2, if_neg h2, if_neg h1, if_neg h2])
          generalize Fa.lsum cc (q.take j) = t at hcur hbs HF
          have hw1 : IntKind.i64.wrap (t + s) = t + s := IntWalk.i64_in _ (by omega)
          clear hst eS ecv hlen hbs
          go_wp2
          go_region_with (fail)
          all_goals
            go_wp2
            go_roundw
            case rel => exact ⟨j + 1, by omega, by first | rfl | go_num, Lib.hid ⟨((HJ.out.1.trans (below_drewN _ _ 1)).setCell (Nat.le_refl _) _), by rw [← numRow_set n (Fa.S cc l k j) (Fa.S cc l k (j + 1)) k _ HF.out]; exact (HJ.out.2.below (below_drewN _ _ 1)).set k _⟩⟩
            case measure => simp [intOf]; omega
        · have hlj' : ¬ (j : Int) < z := by omega
          have hjz : j = z := by omega
          have hK2 : Bk wr w.heap.size 3 (numRow n (Fa.S cc l (k + 1) 0)) := by
            have h := HJ.out.2
            rw [hjz] at h
            have e : numRow n (Fa.S cc l k z) = numRow n (Fa.S cc l (k + 1) 0) := by
              have := HSE.out
              rw [show (Fa.S cc l k z) = fun i => Fa.S cc l k z i from rfl, this]
            rw [← e]
            exact h
          have HK2 := Lib.hid hK2
          clear hK2
          go_wp2
          go_roundw
          case rel => exact ⟨k + 1, by omega, by first | rfl | go_num, Lib.hid ⟨HJ.out.1, HK2.out⟩⟩
          case measure => simp [intOf]; omega
    · have hlt' : ¬ (k : Int) < n := by omega
      have hkn : k = n := by omega
      go_wp2
      go_ret
      refine ⟨_, rfl, ?_, HK.out.1⟩
      refine ⟨_, n, by simp [HN.out], by simp, .inr ⟨w.heap.size, 0, rfl, HK.out.2.lt, fun i u hu => ?_⟩⟩
      rw [Nat.zero_add, HK.out.2.cell i]
      rw [List.getElem?_map, List.getElem?_map] at hu
      obtain ⟨a, ha, rfl⟩ := Option.map_eq_some_iff.1 hu
      obtain ⟨q, hq, rfl⟩ := Option.map_eq_some_iff.1 ha
      have hi := (List.getElem?_eq_some_iff.1 hq).1
      rw [numRow_at n _ i (by have := HN.out; omega)]
      unfold Fa.S
      rw [if_pos (by have := HN.out; omega)]
      simp [List.getD, hq]
set_option maxHeartbeats 2000000 in
theorem gsums_any (l : List (List Int)) (vl : Value) (now : List Int) (vn : Value) (w : World) (hl : LstsIn w vl l) (hml : l.length ≤ 256) (hn : NumsIn w vn now) (hmn : now.length ≤ 256) (hq : ∀ q ∈ l, q.length ≤ 3 ∧ ∀ x ∈ q, 0 ≤ x ∧ x < (now.length : Int)) (hc : ∀ c ∈ now, 0 ≤ c ∧ c ≤ 14) :
    Calls Try.prog 16 #[vl, vn] w fun e w' => ∃ y, e = .returned y ∧ NumsIn w' y (l.map fun q => Fa.lsum (fun b => now.getD b.toNat 0) q) ∧ Below w.heap.size w w' := by
  have HC := Lib.hid (rsums_any l vl now vn w hl hml hn hmn hq hc)
  clear hl hml hn hmn hq hc
  go_enter Try.func16, Try.ntmps16
  go_wp2_with fail
  refine HC.out.mono ?_
  rintro e w1 ⟨y, rfl, h1, h2⟩
  have H := Lib.hid (And.intro h1 h2)
  clear h1 h2
  go_wp2
  go_ret
  exact ⟨y, rfl, H.out.1, H.out.2⟩
end Go.Proofs.Ytpinncjnfbebkaa
