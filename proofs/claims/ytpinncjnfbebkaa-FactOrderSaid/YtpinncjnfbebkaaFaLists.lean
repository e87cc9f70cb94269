/- Lists of lists of numbers, and isMap. No condition. -/
import Derived.Test.YtpinncjnfbebkaaFaRef
namespace Go.Proofs.Ytpinncjnfbebkaa
open Go.RowKit
set_option linter.unusedVariables false
set_option linter.unusedSimpArgs false
attribute [local go_sem] y_undef
/-- Lists of numbers in memory. -/
def LstsIn (w : World) (v : Value) (l : List (List Int)) : Prop :=
  ∃ (A : Option Addr) (c : Nat), v = .slice A l.length c ∧ ∀ i, i < l.length → ∃ b off u, A = some ⟨b, off, none⟩ ∧ b < w.heap.size ∧ w.cell? ⟨b, off + i, none⟩ = some u ∧ NumsIn w u (l.getD i [])
theorem LstsIn.below {w w' : World} {v : Value} {l : List (List Int)} (h : LstsIn w v l) (hb : Below w.heap.size w w') : LstsIn w' v l := by
  obtain ⟨A, c, e, ho⟩ := h
  refine ⟨A, c, e, fun i hi => ?_⟩
  obtain ⟨b, off, u, eA, hlt, hc, hq⟩ := ho i hi
  exact ⟨b, off, u, eA, Nat.lt_of_lt_of_le hlt hb.size, (hb.cell (p := ⟨b, off + i, none⟩) hlt).trans hc, hq.below hb⟩
namespace Fa
def eOk (x : Int) : Bool := decide (0 ≤ x) && decide (x ≤ 255)
def rowOk (q : List Int) : Bool := decide (q.length ≤ 256) && q.all eOk
def isMapB (l : List (List Int)) : Bool := decide (l.length ≤ 256) && l.all rowOk
theorem map_long {l : List (List Int)} (h : 256 < l.length) : isMapB l = false := by unfold isMapB; simp; omega
theorem map_bad {l : List (List Int)} {k : Nat} (hk : k < l.length) (h : rowOk (l.getD k []) = false) : isMapB l = false := by
  unfold isMapB
  rw [Bool.and_eq_false_iff]
  refine .inr ?_
  rw [List.all_eq_false]
  refine ⟨l.getD k [], ?_, by rw [h]; decide⟩
  simp [List.getD, List.getElem?_eq_getElem hk]
theorem map_ok {l : List (List Int)} (h : ¬ 256 < l.length) (hk : ∀ k, k < l.length → rowOk (l.getD k []) = true) : isMapB l = true := by
  unfold isMapB
  rw [Bool.and_eq_true]
  refine ⟨by simp; omega, ?_⟩
  rw [List.all_eq_true]
  intro q hq
  obtain ⟨k, hk1, rfl⟩ := List.getElem_of_mem hq
  have := hk k hk1
  simpa [List.getD, List.getElem?_eq_getElem hk1] using this
theorem row_long {q : List Int} (h : 256 < q.length) : rowOk q = false := by unfold rowOk; simp; omega
theorem row_bad {q : List Int} {k : Nat} (hk : k < q.length) (h : eOk (q.getD k 0) = false) : rowOk q = false := by
  unfold rowOk
  rw [Bool.and_eq_false_iff]
  refine .inr ?_
  rw [List.all_eq_false]
  refine ⟨q.getD k 0, ?_, by rw [h]; decide⟩
  simp [List.getD, List.getElem?_eq_getElem hk]
theorem row_ok {q : List Int} (h : ¬ 256 < q.length) (hk : ∀ k, k < q.length → eOk (q.getD k 0) = true) : rowOk q = true := by
  unfold rowOk
  rw [Bool.and_eq_true]
  refine ⟨by simp; omega, ?_⟩
  rw [List.all_eq_true]
  intro x hx
  obtain ⟨k, hk1, rfl⟩ := List.getElem_of_mem hx
  have := hk k hk1
  simpa [List.getD, List.getElem?_eq_getElem hk1] using this
end Fa
set_option maxHeartbeats 8000000 in
theorem rmap_any (l : List (List Int)) (v : Value) (r : Bool) (w : World) (hv : LstsIn w v l) (hm : l.length ≤ maxLen) (hm2 : ∀ q ∈ l, q.length ≤ maxLen) (hr : Fa.isMapB l = r) :
    Calls Try.prog 46 #[v] w fun e w' => e = .returned (.bool r) ∧ Below w.heap.size w w' := by
  obtain ⟨A, c, rfl, ho⟩ := hv
  unfold maxLen at hm hm2
  have HO := Lib.hid ho
  have HM2 := Lib.hid fun k (hk : k < l.length) => hm2 (l.getD k []) (by simp [List.getD, List.getElem?_eq_getElem hk])
  have HR := Lib.hid hr
  obtain ⟨n, hn⟩ : ∃ n, l.length = n := ⟨_, rfl⟩
  have HN := Lib.hid hn
  rw [hn] at hm HO HM2 ⊢
  clear ho hr hm2 hn
  by_cases h1 : 256 < n
  · have h1' : (256 : Int) < n := by omega
    have HE := Lib.hid (show false = r from (Fa.map_long (by have := HN.out; omega)).symm.trans HR.out)
    go_enter Try.func46, Try.ntmps46
    go_wp2
    go_ret
    exact ⟨ret_bool HE.out, Below.refl _ _⟩
  · have h1' : ¬ (256 : Int) < n := by omega
    go_enter Try.func46, Try.ntmps46
    go_wp2
    go_loopw [3] (fun i wr => ∃ k : Nat, k ≤ n ∧ i = .int .i64 k ∧ Hid ((∀ j, j < k → Fa.rowOk (l.getD j []) = true) ∧ Below w.heap.size w wr)) (fun i _ => n - (intOf i).toNat)
    case atStart => exact ⟨0, Nat.zero_le _, rfl, Lib.hid ⟨fun j hj => by omega, Below.refl _ _⟩⟩
    case round =>
      obtain ⟨k, hk, rfl, HK⟩ := hrel
      obtain ⟨wo, hwo⟩ : ∃ x, x = wr := ⟨_, rfl⟩
      subst hwo
      by_cases hlt : k < n
      · have hlt' : (k : Int) < n := by omega
        obtain ⟨b, off, u, rfl, hbb, hc, hq⟩ := HO.out k hlt
        have hmq := HM2.out k hlt
        obtain ⟨q, hqe⟩ : ∃ q, l.getD k [] = q := ⟨_, rfl⟩
        have HQ := Lib.hid hqe
        rw [hqe] at hq hmq
        clear hqe
        obtain ⟨B, d, rfl, hoq⟩ := hq.opened
        replace hc := (HK.out.2.cell (p := ⟨b, off + k, none⟩) hbb).trans hc
        have HOq := Lib.hid hoq
        obtain ⟨m, hmm⟩ : ∃ m, q.length = m := ⟨_, rfl⟩
        have HMm := Lib.hid hmm
        rw [hmm] at hc hmq HOq
        clear hq hoq hmm
        by_cases h2 : 256 < m
        · have h2' : (256 : Int) < m := by omega
          have HE := Lib.hid (show false = r from (Fa.map_bad (by have := HN.out; omega : k < l.length) (by rw [HQ.out]; exact Fa.row_long (by have := HMm.out; omega))).symm.trans HR.out)
          go_wp2
          go_ret
          exact ⟨ret_bool HE.out, HK.out.2⟩
        · have h2' : ¬ (256 : Int) < m := by omega
          go_wp2
          go_loopw [4] (fun i wr => ∃ j : Nat, j ≤ m ∧ i = .int .i64 j ∧ Hid ((∀ t, t < j → Fa.eOk (q.getD t 0) = true) ∧ Below wo.heap.size wo wr)) (fun i _ => m - (intOf i).toNat)
          case atStart => exact ⟨0, Nat.zero_le _, rfl, Lib.hid ⟨fun j hj => by omega, Below.refl _ _⟩⟩
          case round =>
            obtain ⟨j, hj, rfl, HJ⟩ := hrel
            have hc' := (HJ.out.2.cell (p := ⟨b, off + k, none⟩) (by have := HK.out.2.size; show b < _; omega)).trans hc
            by_cases hlj : j < m
            · have hlj' : (j : Int) < m := by omega
              obtain ⟨b2, off2, rfl, hb2, hx⟩ := HOq.out j hlj
              replace hx := (HJ.out.2.cell (p := ⟨b2, off2 + j, none⟩) (by have := HK.out.2.size; show b2 < _; omega)).trans ((HK.out.2.cell (p := ⟨b2, off2 + j, none⟩) hb2).trans hx)
              obtain ⟨x, hxe⟩ : ∃ x, q.getD j 0 = x := ⟨_, rfl⟩
              have HX := Lib.hid hxe
              rw [hxe] at hx
              clear hxe hc
              by_cases c1 : x < 0
              · have HE := Lib.hid (show false = r from (Fa.map_bad (by have := HN.out; omega : k < l.length) (by rw [HQ.out]; exact Fa.row_bad (by have := HMm.out; omega : j < q.length) (by rw [HX.out]; unfold Fa.eOk; simp; omega))).symm.trans HR.out)
                go_wp2
                go_ret
                exact ⟨ret_bool HE.out, HK.out.2.trans (HJ.out.2.mono HK.out.2.size)⟩
              · by_cases c2 : 255 < x
                · have HE := Lib.hid (show false = r from (Fa.map_bad (by have := HN.out; omega : k < l.length) (by rw [HQ.out]; exact Fa.row_bad (by have := HMm.out; omega : j < q.length) (by rw [HX.out]; unfold Fa.eOk; simp; omega))).symm.trans HR.out)
                  go_wp2
                  go_ret
                  exact ⟨ret_bool HE.out, HK.out.2.trans (HJ.out.2.mono HK.out.2.size)⟩
                · have HXo := Lib.hid (show Fa.eOk (q.getD j 0) = true by rw [HX.out]; unfold Fa.eOk; simp; omega)
                  go_wp2
                  go_roundw
                  case rel => exact ⟨j + 1, by omega, by first | rfl | go_num, Lib.hid ⟨fun t ht => by rcases Nat.lt_succ_iff_lt_or_eq.1 ht with h | rfl; exact HJ.out.1 t h; exact HXo.out, HJ.out.2⟩⟩
                  case measure => simp [intOf]; omega
            · have hlj' : ¬ (j : Int) < m := by omega
              have HXo := Lib.hid (show Fa.rowOk (l.getD k []) = true by rw [HQ.out]; exact Fa.row_ok (by have := HMm.out; omega) fun t ht => HJ.out.1 t (by have := HMm.out; omega))
              clear hc
              go_wp2
              go_roundw
              case rel => exact ⟨k + 1, by omega, by first | rfl | go_num, Lib.hid ⟨fun t ht => by rcases Nat.lt_succ_iff_lt_or_eq.1 ht with h | rfl; exact HK.out.1 t h; exact HXo.out, HK.out.2.trans (HJ.out.2.mono HK.out.2.size)⟩⟩
              case measure => simp [intOf]; omega
      · have hlt' : ¬ (k : Int) < n := by omega
        have HE := Lib.hid (show true = r from (Fa.map_ok (by have := HN.out; omega) fun t ht => HK.out.1 t (by have := HN.out; omega)).symm.trans HR.out)
        go_wp2
        go_ret
        exact ⟨ret_bool HE.out, HK.out.2⟩
end Go.Proofs.Ytpinncjnfbebkaa
