/- Equal lists are found equal; texts of rows of bytes. No condition. -/
import Derived.Test.YthcjohfngnffpaaInDe
import Derived.Test.YthcjohfngnffpaaInRef
import Derived.Laws.BytesArg
import Derived.BigQuiet
import Derived.Deep.QuietTactic
namespace Go.Proofs.Ythcjohfngnffpaa
open Go.RowKit
set_option linter.unusedVariables false
set_option linter.unusedSimpArgs false
attribute [local go_sem] y_undef
set_option maxHeartbeats 4000000 in
theorem sameints_any (l : List Int) (v v' : Value) (w : World) (hv : NumsIn w v l) (hv' : NumsIn w v' l) (hm : l.length ≤ maxLen) :
    Calls Try.prog 18 #[v, v'] w fun e w' => e = .returned (.bool true) ∧ Below w.heap.size w w' := by
  obtain ⟨A, c, rfl, ho⟩ := hv.opened
  obtain ⟨B, d, rfl, ho'⟩ := hv'.opened
  have HO := Lib.hid ho
  have HO' := Lib.hid ho'
  unfold maxLen at hm
  clear hv hv' ho ho'
  obtain ⟨n, hn⟩ : ∃ n, l.length = n := ⟨_, rfl⟩
  rw [hn] at hm HO HO' ⊢
  clear hn
  go_enter Try.func18, Try.ntmps18
  go_wp2
  go_loopw [5] (fun i wr => ∃ k : Nat, k ≤ n ∧ i = .int .i64 k ∧ Hid (Below w.heap.size w wr)) (fun i _ => n - (intOf i).toNat)
  case atStart => exact ⟨0, Nat.zero_le _, rfl, Lib.hid (Below.refl _ _)⟩
  case round =>
    obtain ⟨k, hk, rfl, HK⟩ := hrel
    by_cases hlt : k < n
    · have hlt' : (k : Int) < n := by omega
      obtain ⟨b, off, rfl, hbb, hx⟩ := HO.out k hlt
      obtain ⟨b', off', rfl, hbb', hx'⟩ := HO'.out k hlt
      replace hx := (HK.out.cell (p := ⟨b, off + k, none⟩) hbb).trans hx
      replace hx' := (HK.out.cell (p := ⟨b', off' + k, none⟩) hbb').trans hx'
      generalize l.getD k 0 = x at *
      go_wp2
      go_quiet (fail)
      go_wp2
      go_roundw
      case rel => exact ⟨k + 1, by omega, by first | rfl | go_num, Lib.hid (HK.out.trans (below_drewN _ _ _))⟩
      case measure => simp [intOf]; omega
    · have hlt' : ¬ (k : Int) < n := by omega
      go_wp2
      go_ret
      exact ⟨rfl, HK.out⟩
set_option maxHeartbeats 4000000 in
theorem sameall_any (l : List In.I) (v v' : Value) (w : World) (hv : InsL w v l) (hv' : InsL w v' l) (hm : l.length ≤ maxLen) :
    Calls Try.prog 21 #[v, v'] w fun e w' => e = .returned (.bool true) ∧ Below w.heap.size w w' := by
  obtain ⟨A, c, rfl, ho⟩ := hv.opened
  obtain ⟨B, d, rfl, ho'⟩ := hv'.opened
  have HO := Lib.hid ho
  have HO' := Lib.hid ho'
  unfold maxLen at hm
  clear hv hv' ho ho'
  obtain ⟨n, hn⟩ : ∃ n, l.length = n := ⟨_, rfl⟩
  rw [hn] at hm HO HO' ⊢
  clear hn
  have hg := in_guard
  go_enter Try.func21, Try.ntmps21
  go_wp2
  go_loopw [5] (fun i wr => ∃ k : Nat, k ≤ n ∧ i = .int .i64 k ∧ Hid (Below w.heap.size w wr)) (fun i _ => n - (intOf i).toNat)
  case atStart => exact ⟨0, Nat.zero_le _, rfl, Lib.hid (Below.refl _ _)⟩
  case round =>
    obtain ⟨k, hk, rfl, HK⟩ := hrel
    by_cases hlt : k < n
    · have hlt' : (k : Int) < n := by omega
      obtain ⟨b, off, rfl, hbb, x0, x1, x2, x3, x4, x5⟩ := HO.out k hlt
      obtain ⟨b', off', rfl, hbb', y0, y1, y2, y3, y4, y5⟩ := HO'.out k hlt
      replace x0 := (HK.out.cell (p := ⟨b, off + k * 6, none⟩) hbb).trans x0
      replace y0 := (HK.out.cell (p := ⟨b', off' + k * 6, none⟩) hbb').trans y0
      replace x1 := (HK.out.cell (p := ⟨b, off + k * 6 + 1, none⟩) hbb).trans x1
      replace y1 := (HK.out.cell (p := ⟨b', off' + k * 6 + 1, none⟩) hbb').trans y1
      replace x2 := (HK.out.cell (p := ⟨b, off + k * 6 + 2, none⟩) hbb).trans x2
      replace y2 := (HK.out.cell (p := ⟨b', off' + k * 6 + 2, none⟩) hbb').trans y2
      replace x3 := (HK.out.cell (p := ⟨b, off + k * 6 + 3, none⟩) hbb).trans x3
      replace y3 := (HK.out.cell (p := ⟨b', off' + k * 6 + 3, none⟩) hbb').trans y3
      replace x4 := (HK.out.cell (p := ⟨b, off + k * 6 + 4, none⟩) hbb).trans x4
      replace y4 := (HK.out.cell (p := ⟨b', off' + k * 6 + 4, none⟩) hbb').trans y4
      replace x5 := (HK.out.cell (p := ⟨b, off + k * 6 + 5, none⟩) hbb).trans x5
      replace y5 := (HK.out.cell (p := ⟨b', off' + k * 6 + 5, none⟩) hbb').trans y5
      generalize l.getD k In.i0 = i at *
      obtain ⟨ik, ia, ib, ic, io, im⟩ := i
      have hN := in_neq ⟨ik, ia, ib, ic, io, im⟩ ⟨ik, ia, ib, ic, io, im⟩
      rw [show (!decide ((⟨ik, ia, ib, ic, io, im⟩ : In.I) = ⟨ik, ia, ib, ic, io, im⟩)) = false from by simp] at hN
      simp only at hN x0 x1 x2 x3 x4 x5 y0 y1 y2 y3 y4 y5
      go_wp2
      go_quiet (fail)
      go_wp2
      go_roundw
      case rel => exact ⟨k + 1, by omega, by first | rfl | go_num, Lib.hid (HK.out.trans (below_drewN _ _ _))⟩
      case measure => simp [intOf]; omega
    · have hlt' : ¬ (k : Int) < n := by omega
      go_wp2
      go_ret
      exact ⟨rfl, HK.out⟩
/-- The text of a row of bytes, here and behind. -/
theorem txt_any {w u : World} {base : Nat} {v : Value} {l : List Int} (h : w.ownsRow base 5 1 v l.length (l.map (Value.int .u8))) (hu : Below w.heap.size w u) : (convert 22 9 v).run Try.prog u = .ok (.string (strOfNums l)) u := by
  rcases h.2 with ⟨rfl, h1⟩ | ⟨g, cap, cur, rfl, _⟩
  · have hl : l = [] := List.eq_nil_of_length_eq_zero h1
    subst hl
    exact run_convert_bytes_nil u 22 5 Try.underlying22 Try.underlying5 0 0 9 Try.underlying9
  · have hlt := h.lt g rfl
    refine run_convert_bytes_arg u 22 5 Try.underlying22 Try.underlying5 g 0 l.length cap l rfl ?_ 9 Try.underlying9
    intro i hi
    have := h.cells (g := g) rfl i (.int .u8 (l.getD i 0)) (by rw [List.getElem?_map, getD_some' 0 hi]; rfl)
    have hadd : (⟨g, 0, none⟩ : Addr).add i = ⟨g, 0 + i, none⟩ := by unfold Addr.add; split <;> simp_all
    rw [hadd] at this
    exact (hu.cell (p := ⟨g, 0 + i, none⟩) hlt.2).trans this
theorem str_append (a b : List Int) : strOfNums (a ++ b) = strOfNums a ++ strOfNums b := by
  apply ByteArray.ext
  simp [strOfNums]
theorem str_inj {a b : List Int} (ha : ∀ z ∈ a, 0 ≤ z ∧ z ≤ 255) (hb : ∀ z ∈ b, 0 ≤ z ∧ z ≤ 255) (h : strOfNums a = strOfNums b) : a = b := by
  have h1 : (a.map fun n => UInt8.ofNat n.toNat) = b.map fun n => UInt8.ofNat n.toNat := by
    rw [← strOfNums_data, ← strOfNums_data, h]
  have back : ∀ l : List Int, (∀ z ∈ l, 0 ≤ z ∧ z ≤ 255) → ((l.map fun n => UInt8.ofNat n.toNat).map fun (x : UInt8) => (x.toNat : Int)) = l := fun l hl => by
    rw [List.map_map]
    refine (List.map_congr_left fun z hz => ?_).trans (List.map_id l)
    have := hl z hz
    simp only [Function.comp, UInt8.toNat_ofNat', id]
    omega
  rw [← back a ha, ← back b hb, h1]
end Go.Proofs.Ythcjohfngnffpaa
