/- slices.SortFunc on a row of the call's own: its terms, sorted. No condition. -/
import Derived.Test.YtpinncjnfbebkaaFcBase
import Derived.Test.YtpinncjnfbebkaaFaOf
import Derived.Test.YtpinncjnfbebkaaShelf
import Derived.Shelf.SlSortCmp.WholeK
import Derived.Shelf.SlSortCmp.NoneTotal
namespace Go.Proofs.Ytpinncjnfbebkaa
open Go.RowKit Go.Sort
set_option linter.unusedVariables false
set_option linter.unusedSimpArgs false
attribute [local go_sem] y_undef
theorem cmpNaN_any (x : Int) (w : World) : Calls Try.prog 66 #[.int .i64 x] w fun e w' => e = .returned (.bool false) ∧ w' = w := by
  go_enter Try.func66, Try.ntmps66
  go_wp2
  go_ret
  exact ⟨by simp, rfl⟩
theorem cmp_any (x y : Int) (w : World) : Calls Try.prog 60 #[.int .i64 x, .int .i64 y] w fun e w' => e = .returned (.int .i64 (Lib.compareInt x y)) ∧ w' = w := by
  by_cases h1 : x < y
  · have e : Lib.compareInt x y = -1 := by simp [Lib.compareInt, h1]
    rw [e]
    go_enter Try.func60, Try.ntmps60
    go_wp2_with (go_at_call 66; refine (cmpNaN_any _ _).mono ?_; rintro e w' ⟨rfl, rfl⟩)
    go_ret
    exact ⟨rfl, rfl⟩
  · by_cases h2 : y < x
    · have e : Lib.compareInt x y = 1 := by simp [Lib.compareInt, h1, h2]
      rw [e]
      go_enter Try.func60, Try.ntmps60
      go_wp2_with (go_at_call 66; refine (cmpNaN_any _ _).mono ?_; rintro e w' ⟨rfl, rfl⟩)
      go_ret
      exact ⟨rfl, rfl⟩
    · have e : Lib.compareInt x y = 0 := by simp [Lib.compareInt, h1, h2]
      rw [e]
      go_enter Try.func60, Try.ntmps60
      go_wp2_with (go_at_call 66; refine (cmpNaN_any _ _).mono ?_; rintro e w' ⟨rfl, rfl⟩)
      go_ret
      exact ⟨rfl, rfl⟩
/-- By blocks. -/
def byOf (x y : Int × Int) : Int := Lib.compareInt x.1 y.1
theorem lt_by (x y : Int × Int) : ltOf byOf x y = decide (x.1 < y.1) := by
  unfold ltOf byOf Lib.compareInt
  by_cases h1 : x.1 < y.1
  · simp [h1]
  · by_cases h2 : y.1 < x.1 <;> simp [h1, h2]
theorem swo_by : SWO (ltOf byOf) where
  irrefl x := by rw [lt_by]; simp
  trans x y z h1 h2 := by rw [lt_by] at *; simp at *; omega
  ntrans x y z h1 h2 := by rw [lt_by] at *; simp at *; omega
theorem by_any (x y : Int × Int) (W : World) : Calls Try.prog 59 #[.agg #[.int .i64 x.1, .int .i64 x.2], .agg #[.int .i64 y.1, .int .i64 y.2]] W fun e w' => e = .returned (.int .i64 (byOf x y)) ∧ ∃ q os', w' = grow (W.drewN q) os' := by
  have hcon := fun W' => cmp_any x.1 y.1 W'
  unfold byOf
  generalize Lib.compareInt x.1 y.1 = r at hcon ⊢
  go_enter Try.func59, Try.ntmps59
  go_wp2_with (go_at_call 60; refine (hcon _).mono ?_; rintro e w' ⟨rfl, rfl⟩)
  go_ret
  exact ⟨rfl, 0, _, by rw [alloc_eq_grow, alloc_eq_grow, grow_grow]; rfl⟩
theorem ent_by (args : Array Value) (w : World) : (callFunc 59 args).run Try.prog w = .ok (.enter 59 args) w := enters_of Try.func59 (by kernel_rfl) rfl args w
/-! ### The sort's worlds and rows -/
theorem flat_list (d : Array (Int × Int)) : (flatK prCells 2 d).toList = d.toList.flatMap prCells := by
  apply List.ext_getElem
  · rw [Array.length_toList, size_flatK, flat_length prCells 2 (fun _ => rfl), Array.length_toList]
  · intro t h1 h2
    have ht : t < d.size * 2 := by rw [Array.length_toList, size_flatK] at h1; exact h1
    have hq : t / 2 < d.size := by omega
    have h3 := get_flatK prCells 2 d t ht
    rw [getElem!_pos _ t (by rw [size_flatK]; exact ht), getElem!_pos d _ hq] at h3
    have h4 := flat_cell prCells 2 (fun _ => rfl) d.toList (t / 2) (t % 2) d[t / 2] ((prCells d[t / 2])[t % 2]!) (by simp [hq]) (by
      have : t % 2 < (prCells d[t / 2]).length := by simp [prCells]; omega
      rw [List.getElem?_eq_getElem this, getElem!_pos (prCells d[t / 2]) (t % 2) this])
    rw [show t / 2 * 2 + t % 2 = t by omega, List.getElem?_eq_getElem h2] at h4
    injection h4 with h4
    rw [Array.getElem_toList, h4]
    exact h3
section
variable {w : World} {g m : Nat} {d' : Array (Int × Int)} {os : Array Obj}
theorem sort_block {cur : Array Value} {e : TypeId} (hg : w.heap[g]? = some (.cells cur e (0, 0))) : (sortWorldK prCells 2 w g 0 m d' os).heap[g]? = some (.cells (putCells id 0 (flatK prCells 2 d') cur) e (0, 0)) := by
  have hlt : g < w.heap.size := (Array.getElem?_eq_some_iff.1 hg).1
  unfold sortWorldK putRowK putRow mapBlock grow
  show (w.heap.modify g _ ++ os)[g]? = _
  rw [Array.getElem?_append_left (by simpa using hlt), Array.getElem?_modify, if_pos rfl, hg]
  rfl
theorem sort_grown (hg : g < w.heap.size) : w.grownBy (sortWorldK prCells 2 w g 0 m d' os) (some g) := by
  refine ⟨rfl, rfl, rfl, ?_, fun k hk hne => ?_⟩
  · unfold sortWorldK putRowK putRow mapBlock grow
    simp
  · have hne' : g ≠ k := fun e => hne (by rw [e])
    unfold sortWorldK putRowK putRow mapBlock grow
    show (w.heap.modify g _ ++ os)[k]? = _
    rw [Array.getElem?_append_left (by simpa using hk), Array.getElem?_modify, if_neg hne']
end
theorem put_take (F cur : Array Value) (h : F.size ≤ cur.size) : (putCells id 0 F cur).toList.take F.size = F.toList := by
  apply List.ext_getElem
  · simp [putCells]; omega
  · intro t h1 h2
    have ht : t < F.size := by simpa using h2
    simp [putCells, ht]
theorem sort_own {w : World} {base e g n cap m : Nat} {l : Fa.Tms} {d' : Array (Int × Int)} {os : Array Obj} (h : w.ownsRow base e 2 (.slice (some ⟨g, 0, none⟩) n cap) n (l.flatMap prCells)) (hs : d'.size = n) :
    (sortWorldK prCells 2 w g 0 m d' os).ownsRow base e 2 (.slice (some ⟨g, 0, none⟩) n cap) n (d'.toList.flatMap prCells) := by
  have hl : (d'.toList.flatMap prCells).length = n * 2 := by rw [flat_length prCells 2 (fun _ => rfl), Array.length_toList, hs]
  rcases h.2 with ⟨h', _⟩ | ⟨g', cap', cur, h', hb, hg, hnc, hcm, hcs, htake⟩
  · simp at h'
  · simp only [Value.slice.injEq, Option.some.injEq, Addr.mk.injEq, and_true, true_and] at h'
    obtain ⟨rfl, rfl⟩ := h'
    have hF : (flatK prCells 2 d').size = n * 2 := by rw [size_flatK, hs]
    refine ⟨hl, .inr ⟨g, cap, _, rfl, hb, sort_block hg, hnc, hcm, by simpa [putCells] using hcs, ?_⟩⟩
    rw [← hF, put_take _ _ (by rw [hF, hcs]; exact Nat.mul_le_mul_right 2 hnc), flat_list]
theorem own_holds {w : World} {base e g n cap : Nat} {l : Fa.Tms} (h : w.ownsRow base e 2 (.slice (some ⟨g, 0, none⟩) n cap) n (l.flatMap prCells)) (hn : l.length = n) : HoldsK prCells 2 w g 0 l.toArray := by
  intro j hj
  have hj' : j < n * 2 := by rw [size_flatK] at hj; simpa [hn] using hj
  have hl : (l.flatMap prCells).length = n * 2 := by rw [flat_length prCells 2 (fun _ => rfl), hn]
  refine ⟨?_, h.frozenAt _⟩
  rw [Nat.zero_add, h.cellAt j hj', List.getElem?_eq_getElem (by omega)]
  have hfl := flat_list l.toArray
  have e1 : (flatK prCells 2 l.toArray)[j]! = (l.flatMap prCells)[j]'(by omega) := by
    rw [getElem!_pos _ j hj, ← Array.getElem_toList]
    exact List.getElem_of_eq hfl _
  rw [e1]
  rfl
set_option maxHeartbeats 1000000 in
theorem fsort_any (l : Fa.Tms) (v : Value) (base : Nat) (w : World) (hO : w.ownsRow base 36 2 v l.length (l.flatMap prCells)) (hm : l.length ≤ 1024) :
    Calls Try.prog 58 #[v, .func (.func 59) #[] #[]] w fun e w' => e = .returned (.tuple #[]) ∧ ∃ l' : Fa.Tms, l'.Perm l ∧ l'.Pairwise (fun a b => a.1 ≤ b.1) ∧ w'.ownsRow base 36 2 v l'.length (l'.flatMap prCells) ∧ w.grownBy w' v.ownBlock := by
  rcases hO.2 with ⟨rfl, h0⟩ | ⟨g, cap, cur, rfl, hb, hg, _⟩
  · have e : l = [] := List.eq_nil_of_length_eq_zero h0
    subst e
    have hcon := AnyF.slices_SortFunc_none Try.sortTm none 0 (.func (.func 59) #[] #[]) w
    refine Calls.mono hcon ?_
    rintro e w' ⟨rfl, rfl⟩
    exact ⟨rfl, [], .nil, .nil, hO, World.grownBy.refl _ _⟩
  · have hlt : g < w.heap.size := (Array.getElem?_eq_some_iff.1 hg).1
    have hcon := AnyQ.slices_SortFunc Try.sortTm 2 Try.isAgg36 Try.sizeOf36 prCells (fun _ => rfl) (fun x v hv => by simp [prCells] at hv; rcases hv with rfl | rfl <;> rfl) byOf swo_by 59 #[] g 0 cap l.toArray w ent_by (fun _ _ _ _ x y => by_any x y _) (own_holds hO rfl) hlt (by simp; omega)
    simp only [List.size_toArray] at hcon
    refine Calls.mono hcon ?_
    rintro e w' ⟨rfl, d', n, os, hp, hs, rfl⟩
    have hsz : d'.size = l.length := by simpa using hp.1
    refine ⟨rfl, d'.toList, ?_, ?_, ?_, sort_grown hlt⟩
    · have := hp.2.2
      rw [← hsz] at this
      have e2 : (l.toArray.extract 0 d'.size).toList = l := by rw [hsz]; simp
      rw [e2] at this
      simpa using this
    · rw [List.pairwise_iff_getElem]
      intro i j hi hj hij
      have h := hs i j (Nat.zero_le _) hij (by rw [← hsz]; simpa using hj)
      rw [lt_by] at h
      have hi' : i < d'.size := by simpa using hi
      have hj' : j < d'.size := by simpa using hj
      rw [getElem!_pos d' i hi', getElem!_pos d' j hj'] at h
      simp at h
      simpa using h
    · have e3 : d'.toList.length = l.length := by simpa using hsz
      rw [e3]
      exact sort_own hO hsz
end Go.Proofs.Ytpinncjnfbebkaa
