/- The code of layer 11: which lists are a map, and which blocks have a list. No condition. -/
import Derived.Test.YtpinncjnfbebkaaFcFind
import Derived.Laws.EntriesVeiled
namespace Go.Proofs.Ytpinncjnfbebkaa
open Go.RowKit
set_option linter.unusedVariables false
set_option linter.unusedSimpArgs false
attribute [local go_sem] y_undef
theorem mem_getD {α : Type} {l : List α} {j : Nat} {d : α} (hj : j < l.length) : l.getD j d ∈ l := by
  rw [List.getD_eq_getElem?_getD, List.getElem?_eq_getElem hj]
  exact List.getElem_mem hj
theorem ent_valid1 (args : Array Value) (w : World) : (callFunc 48 args).run Try.prog w = .ok (.enter 48 args) w := enters_of Try.func48 (by kernel_rfl) rfl args w
theorem ent_valid2 (args : Array Value) (w : World) : (callFunc 51 args).run Try.prog w = .ok (.enter 51 args) w := enters_of Try.func51 (by kernel_rfl) rfl args w
theorem ent_listed1 (args : Array Value) (w : World) : (callFunc 53 args).run Try.prog w = .ok (.enter 53 args) w := enters_of Try.func53 (by kernel_rfl) rfl args w
theorem ent_listed2 (args : Array Value) (w : World) : (callFunc 54 args).run Try.prog w = .ok (.enter 54 args) w := enters_of Try.func54 (by kernel_rfl) rfl args w
theorem valid1_any (x : Int) (w : World) : Calls Try.prog 48 #[.int .i64 x] w fun e w' => e = .returned (.bool (!(inB x))) ∧ Below w.heap.size w w' := by
  cases h : inB x
  all_goals
    have H := Lib.hid h
    clear h
    go_enter Try.func48, Try.ntmps48
    go_wp2_with (go_at_call 49; refine (fblock_any x _ H.out _).mono ?_; rintro e w' ⟨rfl, rfl⟩)
    go_ret
    exact ⟨rfl, Below.refl _ _⟩
theorem len_in {w : World} {v : Value} {l : List Int} (h : NumsIn w v l) : ∃ A c, v = .slice A l.length c := by
  obtain ⟨A, c, e, _⟩ := h.opened
  exact ⟨A, c, e⟩
theorem row_any (q : List Int) : Fa.rowOk q = (decide (q.length ≤ 256) && !((List.range q.length).any fun k => !(inB (q.getD k 0)))) := by
  have e : ∀ x, Fa.eOk x = inB x := fun x => by unfold Fa.eOk inB; by_cases h : 0 ≤ x <;> simp [h]; omega
  unfold Fa.rowOk
  congr 1
  rw [Bool.eq_iff_iff, List.all_eq_true, Bool.not_eq_true', List.any_eq_false]
  constructor
  · intro h k hk
    have hk' : k < q.length := by simpa using hk
    have := h _ (List.getElem_mem hk')
    rw [e] at this
    simp [List.getD, List.getElem?_eq_getElem hk', this]
  · intro h x hx
    obtain ⟨k, hk, rfl⟩ := List.getElem_of_mem hx
    have := h k (by simpa using hk)
    simp only [List.getD, List.getElem?_eq_getElem hk, Option.getD_some, Bool.not_eq_true, Bool.not_eq_false'] at this
    rw [e]
    exact this
theorem map_any (l : List (List Int)) : Fa.isMapB l = (decide (l.length ≤ 256) && !((List.range l.length).any fun k => !(Fa.rowOk (l.getD k [])))) := by
  unfold Fa.isMapB
  congr 1
  rw [Bool.eq_iff_iff, List.all_eq_true, Bool.not_eq_true', List.any_eq_false]
  constructor
  · intro h k hk
    have hk' : k < l.length := by simpa using hk
    have := h _ (List.getElem_mem hk')
    simp [List.getD, List.getElem?_eq_getElem hk', this]
  · intro h x hx
    obtain ⟨k, hk, rfl⟩ := List.getElem_of_mem hx
    have := h k (by simpa using hk)
    simp only [List.getD, List.getElem?_eq_getElem hk, Option.getD_some, Bool.not_eq_true, Bool.not_eq_false'] at this
    exact this
/-- A list that is none of a map's. -/
theorem valid2_any (q : List Int) (u : Value) (B : Nat) (w : World) (hu : NumsIn w u q) (hm : q.length ≤ maxLen) (hc : w.cell? ⟨B, 0, none⟩ = some (.func (.func 48) #[] #[])) :
    Calls Try.prog 51 #[u, .pointer (some ⟨B, 0, none⟩)] w fun e w' => e = .returned (.bool (!(Fa.rowOk q))) ∧ Below w.heap.size w w' := by
  have HC := Lib.hid fun (r : Bool) (hr : (List.range q.length).any (fun k => !(inB (q.getD k 0))) = r) => hasNm_any 48 #[] ent_valid1 q u w _ hu hm (fun W k hb hk => valid1_any _ W) r hr
  rw [row_any]
  obtain ⟨A, c, rfl⟩ := len_in hu
  unfold maxLen at hm
  clear hu
  obtain ⟨n, hn⟩ : ∃ n, q.length = n := ⟨_, rfl⟩
  rw [hn] at hm HC ⊢
  clear hn
  by_cases h1 : 256 < n
  · have h1' : (256 : Int) < n := by omega
    have e : decide (n ≤ 256) = false := by simp; omega
    rw [e]
    go_enter Try.func51, Try.ntmps51
    go_wp2
    go_ret
    exact ⟨rfl, Below.refl _ _⟩
  · have h1' : ¬ (256 : Int) < n := by omega
    have e : decide (n ≤ 256) = true := by simp; omega
    rw [e]
    cases h2 : (List.range n).any fun k => !(inB (q.getD k 0))
    all_goals
      have H2 := Lib.hid h2
      clear h2
      go_enter Try.func51, Try.ntmps51
      go_wp2_with (go_at_call 36; refine (HC.out _ H2.out).mono ?_; rintro e w' ⟨rfl, hb⟩)
      go_ret
      exact ⟨rfl, hb⟩
set_option maxHeartbeats 2000000 in
theorem fvalid_any (l : List (List Int)) (v : Value) (r : Bool) (w : World) (hv : LstsIn w v l) (hm : l.length ≤ maxLen) (hm2 : ∀ q ∈ l, q.length ≤ maxLen) (hr : Fa.isMapB l = r) :
    Calls Try.prog 34 #[v] w fun e w' => e = .returned (.bool r) ∧ Below w.heap.size w w' := by
  subst hr
  rw [map_any]
  have hb1 := (Below.refl w.heap.size w).alloc (Nat.le_refl _) (.cells #[.func (.func 48) #[] #[]] 59)
  have HB := Lib.hid hb1
  have HC := Lib.hid fun (r : Bool) (hr : (List.range l.length).any (fun k => !(Fa.rowOk (l.getD k []))) = r) =>
    hasLs_any 51 #[.pointer (some ⟨w.heap.size, 0, none⟩)] ent_valid2 l v (w.alloc (.cells #[.func (.func 48) #[] #[]] 59)) (fun k => !(Fa.rowOk (l.getD k []))) (hv.below hb1) hm
      (fun W k u hu hb hk => valid2_any (l.getD k []) u w.heap.size W hu (hm2 _ (mem_getD hk)) ((hb.cell (p := ⟨w.heap.size, 0, none⟩) (by simp)).trans (by simp))) r hr
  obtain ⟨A, c, rfl, _⟩ := id hv
  unfold maxLen at hm
  clear hv hm2 hb1
  obtain ⟨n, hn⟩ : ∃ n, l.length = n := ⟨_, rfl⟩
  rw [hn] at hm HC ⊢
  clear hn
  by_cases h1 : n ≤ 256
  · have h1' : (n : Int) ≤ 256 := by omega
    have e : decide (n ≤ 256) = true := by simp; omega
    rw [e]
    cases h2 : (List.range n).any fun k => !(Fa.rowOk (l.getD k []))
    all_goals
      have H2 := Lib.hid h2
      clear h2
      go_enter Try.func34, Try.ntmps34
      go_wp2_with (go_at_call 50; refine (HC.out _ H2.out).mono ?_; rintro e w' ⟨rfl, hb⟩)
      go_ret
      exact ⟨rfl, HB.out.trans (hb.mono HB.out.size)⟩
  · have h1' : ¬ (n : Int) ≤ 256 := by omega
    have e : decide (n ≤ 256) = false := by simp; omega
    rw [e]
    go_enter Try.func34, Try.ntmps34
    go_wp2
    go_ret
    exact ⟨rfl, HB.out⟩
theorem listed1_any (x : Int) (A : Option Addr) (n c B : Nat) (hn : n ≤ maxLen) (w : World) (hc : w.cell? ⟨B, 0, none⟩ = some (.slice A n c)) :
    Calls Try.prog 53 #[.int .i64 x, .pointer (some ⟨B, 0, none⟩)] w fun e w' => e = .returned (.bool (decide ((n : Int) ≤ x))) ∧ Below w.heap.size w w' := by
  unfold maxLen at hn
  by_cases h : (n : Int) ≤ x
  · have e : decide ((n : Int) ≤ x) = true := by simp [h]
    rw [e]
    go_enter Try.func53, Try.ntmps53
    go_wp2
    go_ret
    exact ⟨rfl, Below.refl _ _⟩
  · have e : decide ((n : Int) ≤ x) = false := by simp; omega
    rw [e]
    go_enter Try.func53, Try.ntmps53
    go_wp2
    go_ret
    exact ⟨rfl, Below.refl _ _⟩
/-- A list with a block that has none. -/
def miss (n : Nat) (q : List Int) : Bool := (List.range q.length).any fun k => decide ((n : Int) ≤ q.getD k 0)
theorem listed2_any (q : List Int) (u : Value) (A : Option Addr) (n c B B' : Nat) (hn : n ≤ maxLen) (w : World) (hu : NumsIn w u q) (hm : q.length ≤ maxLen) (hB : B < w.heap.size) (hc : w.cell? ⟨B, 0, none⟩ = some (.slice A n c))
    (hc' : w.cell? ⟨B', 0, none⟩ = some (.func (.func 53) #[] #[.pointer (some ⟨B, 0, none⟩)])) (r : Bool) (hr : miss n q = r) :
    Calls Try.prog 54 #[u, .pointer (some ⟨B', 0, none⟩)] w fun e w' => e = .returned (.bool r) ∧ Below w.heap.size w w' := by
  have HC := Lib.hid (hasNm_any 53 #[.pointer (some ⟨B, 0, none⟩)] ent_listed1 q u w (fun k => decide ((n : Int) ≤ q.getD k 0)) hu hm (fun W k hb hk => listed1_any _ A n c B hn W ((hb.cell (p := ⟨B, 0, none⟩) hB).trans hc)) r hr)
  clear hu hm hc hr
  go_enter Try.func54, Try.ntmps54
  go_wp2_with (go_at_call 36; refine HC.out.mono ?_; rintro e w' ⟨rfl, hb⟩)
  go_ret
  exact ⟨rfl, hb⟩
set_option maxHeartbeats 2000000 in
theorem flisted_any (l ts : List (List Int)) (v v' : Value) (r : Bool) (w : World) (hv : LstsIn w v l) (hm : l.length ≤ maxLen) (hm2 : ∀ q ∈ l, q.length ≤ maxLen) (hv' : LstsIn w v' ts) (hm' : ts.length ≤ maxLen)
    (hr : (List.range l.length).any (fun k => miss ts.length (l.getD k [])) = r) :
    Calls Try.prog 39 #[v, v'] w fun e w' => e = .returned (.bool (!r)) ∧ Below w.heap.size w w' := by
  obtain ⟨A, c, rfl, _⟩ := id hv'
  have hb1 := ((Below.refl w.heap.size w).alloc (Nat.le_refl _) (.cells #[.slice A ts.length c] 32)).alloc (by simp) (.cells #[.func (.func 53) #[] #[.pointer (some ⟨w.heap.size, 0, none⟩)]] 59)
  have HB := Lib.hid hb1
  have HC := Lib.hid (hasLs_any 54 #[.pointer (some ⟨w.heap.size + 1, 0, none⟩)] ent_listed2 l v ((w.alloc (.cells #[.slice A ts.length c] 32)).alloc (.cells #[.func (.func 53) #[] #[.pointer (some ⟨w.heap.size, 0, none⟩)]] 59)) (fun k => miss ts.length (l.getD k [])) (hv.below hb1) hm
      (fun W k u hu hb hk => listed2_any (l.getD k []) u A ts.length c w.heap.size (w.heap.size + 1) hm' W hu (hm2 _ (mem_getD hk)) (by have := hb.size; simp at this; omega) ((hb.cell (p := ⟨w.heap.size, 0, none⟩) (by simp; omega)).trans (by go_simp)) ((hb.cell (p := ⟨w.heap.size + 1, 0, none⟩) (by simp)).trans (by go_simp)) _ rfl) r hr)
  obtain ⟨C, d, rfl, _⟩ := id hv
  clear hv hv' hm2 hb1 hr
  cases r
  all_goals
    go_enter Try.func39, Try.ntmps39
    go_wp2_with (go_at_call 50; refine HC.out.mono ?_; rintro e w' ⟨rfl, hb⟩)
    go_ret
    exact ⟨rfl, HB.out.trans (hb.mono HB.out.size)⟩
end Go.Proofs.Ytpinncjnfbebkaa
