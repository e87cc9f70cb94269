/- The specification's names: those of the generator are names and no keywords. -/
import Derived.Test.YtbppfhlpielpcaaDoorTkPbs
import Derived.Test.YtbppfhlpielpcaaDoorRfDeep
namespace Go.Proofs.YtbppfhlpielpcaaDoor
open Go.RowKit Tk
set_option linter.unusedVariables false
def kwNames : List ByteArray := [⟨#[114, 101, 115, 111, 117, 114, 99, 101]⟩, ⟨#[115, 104, 97, 114, 101, 100]⟩, ⟨#[116, 97, 115, 107]⟩, ⟨#[112, 101, 114, 105, 111, 100]⟩, ⟨#[100, 101, 97, 100, 108, 105, 110, 101]⟩, ⟨#[112, 114, 105, 111, 114, 105, 116, 121]⟩, ⟨#[106, 105, 116, 116, 101, 114]⟩, ⟨#[105, 110, 112, 117, 116]⟩,
  ⟨#[118, 97, 114]⟩, ⟨#[97, 114, 114, 97, 121]⟩, ⟨#[109, 111, 100, 101]⟩, ⟨#[110, 101, 118, 101, 114]⟩, ⟨#[98, 111, 100, 121]⟩, ⟨#[101, 110, 100]⟩, ⟨#[105, 102]⟩, ⟨#[108, 97, 98, 101, 108]⟩, ⟨#[101, 108, 115, 101]⟩, ⟨#[119, 104, 105, 108, 101]⟩, ⟨#[109, 97, 120]⟩, ⟨#[108, 111, 99, 107]⟩]
/-- A name that is no keyword. -/
def Nam (s : ByteArray) : Prop := nameB (bs s) = true ∧ (∀ x ∈ kwNames, (bs x == bs s) = false) ∧ s.size ≤ 12
theorem Nm.nam {s : ByteArray} (h : Nm s) : Nam s := by
  have hs := h.size
  unfold Nm nameList at h
  simp only [List.mem_cons, List.not_mem_nil, or_false] at h
  rcases h with rfl | rfl | rfl | rfl | rfl | rfl | rfl | rfl | rfl <;> exact ⟨by decide, by decide, by omega⟩
theorem few_nam : Nam few := ⟨by decide, by decide, by decide⟩
theorem task_nam (i : Nat) (h : i < 6) : Nam ⟨#[116, UInt8.ofNat (97 + i)]⟩ := by
  have hi : i = 0 ∨ i = 1 ∨ i = 2 ∨ i = 3 ∨ i = 4 ∨ i = 5 := by omega
  rcases hi with rfl | rfl | rfl | rfl | rfl | rfl <;> exact ⟨by decide, by decide, by decide⟩
abbrev kwVals : Array Value := (kwNames.map Value.string).toArray
set_option maxRecDepth 100000 in
set_option maxHeartbeats 1000000 in
theorem kw_no (s : ByteArray) (hs : Nam s) (w : World) : Calls Tryd.prog 51 #[.string s] w fun e w' => e = .returned (.bool false) ∧ Below w.heap.size w w' := by
  have HC := Lib.hid (fun k (hk : k < 20) => (show (w.alloc (.cells kwVals 9)).cell? ⟨w.heap.size, k, none⟩ = some (.string (kwNames[k]'hk)) from by
    rw [(Blk.new w 9 kwVals).cell, List.getElem?_toArray, List.getElem?_map, List.getElem?_eq_getElem (show k < kwNames.length from hk)]
    rfl))
  have HE := Lib.hid (fun k (hk : k < 20) => hs.2.1 (kwNames[k]'hk) (List.getElem_mem hk))
  have HB := Lib.hid ((Below.refl w.heap.size w).alloc (Nat.le_refl _) (.cells kwVals 9))
  clear hs
  go_enter Tryd.func51, Tryd.ntmps51
  go_wp2
  obtain ⟨w1, hw1⟩ : ∃ w1, w1 = w.alloc (.cells kwVals 9) := ⟨_, rfl⟩
  change Code.wp _ _ _ _ (w.alloc (.cells kwVals 9))
  rw [← hw1] at HC HB ⊢
  clear hw1
  go_loopw [4] (fun i wr => ∃ k : Nat, k ≤ 20 ∧ i = .int .i64 k ∧ Hid (wr = w1)) (fun i _ => 20 - (intOf i).toNat)
  case atStart => exact ⟨0, by omega, rfl, Lib.hid rfl⟩
  case round =>
    obtain ⟨k, hk, rfl, hw⟩ := hrel
    have hw' := hw.out
    subst hw'
    clear hw
    by_cases hlt : k < 20
    · have hlt' : (k : Int) < 20 := by omega
      have hc := HC.out k hlt
      have he := HE.out k hlt
      generalize kwNames[k]'hlt = p at *
      have he' : (p.toList == s.toList) = false := by rw [Lib.toList_data, Lib.toList_data]; exact he
      clear he
      go_wp2_with fail
      go_roundw
      case rel => exact ⟨k + 1, by omega, by go_num, (by first | exact Lib.hid rfl | exact Lib.hid trivial)⟩
      case measure => simp [intOf]; omega
    · have hlt' : ¬ (k : Int) < 20 := by omega
      go_wp2
      go_ret
      exact ⟨rfl, HB.out⟩
set_option maxHeartbeats 1000000 in
theorem name4_any (s : ByteArray) (hs : Nam s) (w : World) : Calls Tryd.prog 39 #[.string s] w fun e w' => e = .returned (.bool true) ∧ Below w.heap.size w w' := by
  have H := Lib.hid hs
  clear hs
  go_enter Tryd.func39, Tryd.ntmps39
  go_wp2_with fail
  refine (rname_any s (by have := H.out.2.2; unfold maxLen; omega) _).mono ?_
  rintro e w1 ⟨rfl, rfl⟩
  have hn := H.out.1
  rw [hn]
  clear hn
  go_wp2_with fail
  refine (kw_no s H.out _).mono ?_
  rintro e w2 ⟨rfl, hb⟩
  have HB := Lib.hid hb
  clear hb
  go_wp2_with fail
  go_ret
  exact ⟨rfl, HB.out⟩
end Go.Proofs.YtbppfhlpielpcaaDoor
