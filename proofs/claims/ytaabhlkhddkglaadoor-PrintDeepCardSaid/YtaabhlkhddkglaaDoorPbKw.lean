/- The parser on one keyword: it is no expression. print.named. No condition. -/
import Derived.Test.YtaabhlkhddkglaaDoorPbTake
import Derived.Test.YtaabhlkhddkglaaDoorPrName
namespace Go.Proofs.YtaabhlkhddkglaaDoor
open Go.RowKit
set_option linter.unusedVariables false
set_option linter.unusedSimpArgs false
attribute [local go_sem] y_undef
def isKw (s : ByteArray) : Bool := kwNames.any fun x => s.data.toList == x.data.toList
theorem noKw {s : ByteArray} (h : isKw s = false) : NoKw s := fun x hx => by
  unfold isKw at h
  rw [List.any_eq_false] at h
  simpa using h x hx
theorem byteArray_ext {a b : ByteArray} (h : a.data.toList = b.data.toList) : a = b := by
  cases a; cases b
  simp only at h
  congr 1
  exact Array.toList_inj.1 h
set_option maxRecDepth 100000 in
set_option maxHeartbeats 4000000 in
theorem keyword_yes (s : ByteArray) (h : isKw s = true) (w : World) : Calls Tryd.prog 79 #[.string s] w fun e w' => e = .returned (.bool true) ∧ w' = w := by
  have h2 : s ∈ kwNames := by
    unfold isKw at h
    rw [List.any_eq_true] at h
    obtain ⟨x, hx, he⟩ := h
    have he : s.data.toList = x.data.toList := by simpa using he
    rw [byteArray_ext he]
    exact hx
  clear h
  simp only [kwNames, List.mem_cons, List.not_mem_nil, or_false] at h2
  rcases h2 with rfl | rfl | rfl | rfl | rfl | rfl | rfl | rfl | rfl | rfl | rfl | rfl | rfl | rfl | rfl | rfl | rfl | rfl | rfl | rfl
  all_goals
    go_enter Tryd.func79, Tryd.ntmps79
    go_wp2
    go_ret
    exact ⟨rfl, rfl⟩
theorem pnamed_kw (n l : Int) (s : ByteArray) (h : isKw s = true) (w : World) : Calls Tryd.prog 74 #[tkV 1 n l s] w fun e w' => e = .returned (.bool false) ∧ Below w.heap.size w w' := by
  have hb := (Below.refl w.heap.size w).alloc (Nat.le_refl _) (.cells #[.int .i64 1, .int .i64 n, .int .i64 l, .string s] 61)
  go_enter Tryd.func74, Tryd.ntmps74
  go_wp2_with (go_at_call 79; refine (keyword_yes s h _).mono ?_; rintro e w' ⟨rfl, rfl⟩)
  go_ret
  exact ⟨rfl, hb⟩
set_option maxRecDepth 100000 in
theorem begin_kw {B : Nat} (tn tl : Int) (s : ByteArray) (w : World) (hk : isKw s = true) (hm : (s.data.toList == [45]) = false) (hp : (s.data.toList == [40]) = false) :
    Calls Tryd.prog 57 #[.pointer (some ⟨B, 0, none⟩), tkV 1 tn tl s] w fun e w' => e = .returned (.bool false) ∧ Below w.heap.size w w' := by
  have hm' : (s.toList == [45]) = false := by rw [Lib.toList_data]; exact hm
  have hp' : (s.toList == [40]) = false := by rw [Lib.toList_data]; exact hp
  have hb0 := (Below.refl w.heap.size w).alloc (Nat.le_refl _) (.cells #[.int .i64 1, .int .i64 tn, .int .i64 tl, .string s] 61)
  have hT : Tk1 w.heap.size 1 tn tl s (w.alloc (.cells #[.int .i64 1, .int .i64 tn, .int .i64 tl, .string s] 61)) := ⟨by simp, by simp, by simp, by simp, by simp⟩
  have HT := Lib.hid hT
  have HB0 := Lib.hid hb0
  clear hm hp hT hb0
  go_enter Tryd.func57, Tryd.ntmps57
  go_wp2_with (go_at_call 74; refine (pnamed_kw tn tl s hk _).mono ?_; rintro e w1 ⟨rfl, hb1⟩; obtain ⟨hl1, t0, t1, t2, t3⟩ := HT.out.below hb1 HT.out.1; have HB1 := Lib.hid (HB0.out.trans (hb1.mono HB0.out.size)); clear hb1)
  go_ret
  exact ⟨rfl, HB1.out⟩
set_option maxRecDepth 100000 in
theorem take_kw {base B n m : Nat} {vp vo : Value} {xs ys : List Value} {br : Int} {dp : Bool} {ln : Int} (tn tl : Int) (s : ByteArray) (w : World) (hs : Bs base B vp n xs vo m ys br false dp ln w) (hk : isKw s = true) (hm : (s.data.toList == [45]) = false) (hp : (s.data.toList == [40]) = false) :
    Calls Tryd.prog 46 #[.pointer (some ⟨B, 0, none⟩), tkV 1 tn tl s] w fun e w' => e = .returned (.bool false) ∧ Below w.heap.size w w' := by
  have HB := Lib.hid ((Below.refl w.heap.size w).alloc (Nat.le_refl _) (.cells #[.int .i64 1, .int .i64 tn, .int .i64 tl, .string s] 61))
  obtain ⟨_, _, _, c7, _⟩ := hs.1.cell
  have hlt := hs.1.lt
  clear hs
  go_enter Tryd.func46, Tryd.ntmps46
  go_wp2_with (go_at_call 57; refine (begin_kw tn tl s _ hk hm hp).mono ?_; rintro e w1 ⟨rfl, hb⟩)
  go_ret
  exact ⟨rfl, HB.out.trans (hb.mono HB.out.size)⟩
set_option maxRecDepth 100000 in
theorem longest_kw {b c : Nat} (tn tl : Int) (s : ByteArray) (w : World) (hT : Tk1 b 1 tn tl s w) (hk : isKw s = true) (hm : (s.data.toList == [45]) = false) (hp : (s.data.toList == [40]) = false) :
    Calls Tryd.prog 44 #[.slice (some ⟨b, 0, none⟩) 1 c] w fun e w' => e = .returned (.int .i64 0) ∧ Below w.heap.size w w' := by
  go_enter Tryd.func44, Tryd.ntmps44
  go_upto_region 2 with (go_at_call 45; refine (newBuilder_any _).mono ?_; rintro e w1 ⟨B, rfl, hs, hb⟩)
  obtain ⟨hb1, t0, t1, t2, t3⟩ := hT.below hb hT.1
  have hX := Lib.hid ((hb.alloc (Nat.le_of_lt (Nat.lt_of_le_of_lt hs.1.le hs.1.lt)) (.cells #[.int .i64 1, .int .i64 tn, .int .i64 tl, .string s] 61)))
  have hS := Lib.hid (hs.alloc (.cells #[.int .i64 1, .int .i64 tn, .int .i64 tl, .string s] 61))
  clear hs hb hT
  go_wp2
  refine wp_loop_rounds 1 ?_
  rw [rounds_succ]
  go_wp2_with (go_at_call 46; refine (take_kw tn tl s _ hS.out hk hm hp).mono ?_; rintro e w2 ⟨rfl, hb2⟩; have HX2 := Lib.hid (hX.out.trans (hb2.mono hX.out.size)); clear hb2)
  go_ret
  exact ⟨rfl, HX2.out⟩
set_option maxRecDepth 100000 in
set_option maxHeartbeats 1000000 in
theorem expr_kw {b c : Nat} (tn tl : Int) (s : ByteArray) (w : World) (hT : Tk1 b 1 tn tl s w) (hk : isKw s = true) (hm : (s.data.toList == [45]) = false) (hp : (s.data.toList == [40]) = false) :
    Calls Tryd.prog 39 #[.slice (some ⟨b, 0, none⟩) 1 c] w fun e w' => e = .returned (.tuple #[exPV 0 0 ⟨#[]⟩ 0 none 0 0, .int .i64 0, .int .i64 1]) ∧ Below w.heap.size w w' := by
  have hG := Lib.hid (show Bk (w.alloc (.cells #[.int .i64 0, .int .i64 0, .string ⟨#[]⟩, .int .i64 0, .slice none 0 0] 26)) w.heap.size 26 #[.int .i64 0, .int .i64 0, .string ⟨#[]⟩, .int .i64 0, .slice none 0 0] from Bk.new _ _ _)
  have hb0 := Lib.hid ((Below.refl w.heap.size w).alloc (Nat.le_refl _) (.cells #[.int .i64 0, .int .i64 0, .string ⟨#[]⟩, .int .i64 0, .slice none 0 0] 26))
  have hT0 := Lib.hid (hT.below hb0.out hT.1)
  clear hT
  go_enter Tryd.func39, Tryd.ntmps39
  go_wp2_with (go_at_call 44; refine (longest_kw tn tl s _ hT0.out hk hm hp).mono ?_; rintro e w1 ⟨rfl, hb1⟩; have HX4 := Lib.hid (hb0.out.trans (hb1.mono hb0.out.size)); have hG4 := Bk.below hG.out hb1; have f0 := hG4.frozen 0; have f1 := hG4.frozen 1; have f2 := hG4.frozen 2; have f3 := hG4.frozen 3; have f4 := hG4.frozen 4; have g0 := hG4.cell 0; have g1 := hG4.cell 1; have g2 := hG4.cell 2; have g3 := hG4.cell 3; have g4 := hG4.cell 4; simp only [List.getElem?_toArray, List.getElem?_cons_zero, List.getElem?_cons_succ] at g0 g1 g2 g3 g4; have hl4 := hG4.lt; clear hb1 hG hG4 hb0 hT0)
  refine bodyPost_ret (v := .tuple #[exPV 0 0 ⟨#[]⟩ 0 none 0 0, .int .i64 0, .int .i64 1]) ?_ rfl ⟨rfl, (((((HX4.out.setCell (Nat.le_refl _) _).setCell (Nat.le_refl _) _).setCell (Nat.le_refl _) _).setCell (Nat.le_refl _) _).setCell (Nat.le_refl _) _)⟩
  simp [results, Tryd.results39, go_sem, g0, g1, g2, g3, g4, hl4]
end Go.Proofs.YtaabhlkhddkglaaDoor
