/- The parser on one name: take, finish. No condition. -/
import Derived.Test.YtaabhlkhddkglaaDoorPbBegin
namespace Go.Proofs.YtaabhlkhddkglaaDoor
open Go.RowKit
set_option linter.unusedVariables false
set_option linter.unusedSimpArgs false
attribute [local go_sem] y_undef
set_option maxRecDepth 100000 in
theorem take_name {base B n m : Nat} {vp vo : Value} {xs ys : List Value} {br : Int} {dp : Bool} {ln : Int} (tn tl : Int) (s : ByteArray) (w : World) (hs : Bs base B vp n xs vo m ys br false dp ln w) (hn : n ≤ 1000000) (hk : NoKw s) (hm : (s.data.toList == [45]) = false) (hsz : s.size ≤ 281474976710656) :
    Calls Tryd.prog 46 #[.pointer (some ⟨B, 0, none⟩), tkV 1 tn tl s] w fun e w' => e = .returned (.bool true) ∧ Below B w w' ∧ ∃ vp', Bs base B vp' (n + 1) (xs ++ ptC 2 0 s 0 none 0 0 1 tl true) vo m ys br true dp ln w' := by
  have HA := Lib.hid (hs.alloc (.cells #[.int .i64 1, .int .i64 tn, .int .i64 tl, .string s] 61))
  have HB := Lib.hid ((Below.refl B w).alloc (Nat.le_of_lt hs.1.lt) (.cells #[.int .i64 1, .int .i64 tn, .int .i64 tl, .string s] 61))
  obtain ⟨_, _, _, c7, _⟩ := hs.1.cell
  have hlt := hs.1.lt
  clear hs
  go_enter Tryd.func46, Tryd.ntmps46
  go_wp2_with (go_at_call 57; refine (begin_name tn tl s _ HA.out hn hk hm hsz).mono ?_; rintro e w1 ⟨rfl, hb, vp2, h1⟩)
  go_ret
  exact ⟨rfl, HB.out.trans hb, _, h1⟩
theorem own_cell {w : World} {base : Nat} {e : TypeId} {size g n cap : Nat} {xs : List Value} (h : w.ownsRow base e size (.slice (some ⟨g, 0, none⟩) n cap) n xs) (j : Nat) {u : Value} (hj : xs[j]? = some u) : w.cell? ⟨g, j, none⟩ = some u := by
  have := h.cells (g := g) rfl j u hj
  have hadd : (⟨g, 0, none⟩ : Addr).add j = ⟨g, j, none⟩ := by unfold Addr.add; split <;> simp_all
  rwa [hadd] at this
abbrev exPV (k num : Int) (s : ByteArray) (op : Int) (A : Option Addr) (l c : Nat) : Value := .agg #[.int .i64 k, .int .i64 num, .string s, .int .i64 op, .slice A l c]
set_option maxRecDepth 100000 in
theorem finish_one {base B c : Nat} {vp : Value} {A : Option Addr} {ys : List Value} {br : Int} {en dp : Bool} {ln tl : Int} (s : ByteArray) (w : World) (hs : Bs base B vp 1 (ptC 2 0 s 0 none 0 0 1 tl true) (.slice A 0 c) 0 ys br en dp ln w) :
    Calls Tryd.prog 47 #[.pointer (some ⟨B, 0, none⟩)] w fun e w' => e = .returned (exPV 2 0 s 0 none 0 0) ∧ Below w.heap.size w w' := by
  have HR := Lib.hid (hs.alloc (.cells #[.int .i64 0, .int .i64 0, .string ⟨#[]⟩, .int .i64 0, .slice none 0 0] 26))
  have hb0 := Lib.hid ((Below.refl w.heap.size w).alloc (Nat.le_refl _) (.cells #[.int .i64 0, .int .i64 0, .string ⟨#[]⟩, .int .i64 0, .slice none 0 0] 26))
  have hG := Lib.hid (show Bk (w.alloc (.cells #[.int .i64 0, .int .i64 0, .string ⟨#[]⟩, .int .i64 0, .slice none 0 0] 26)) w.heap.size 26 #[.int .i64 0, .int .i64 0, .string ⟨#[]⟩, .int .i64 0, .slice none 0 0] from Bk.new _ _ _)
  have hlt := hs.1.lt
  clear hs
  go_enter Tryd.func47, Tryd.ntmps47
  go_upto_region 2 with (go_at_call 58; refine (build0_any 1 (by decide) _ HR.out).mono ?_; rintro e w1 ⟨rfl, hb1⟩)
  have hs1 := HR.out.below hb1
  have hG1 := hG.out.below hb1
  have hbW := hb0.out.trans (hb1.mono (by simp))
  clear HR hG hb0 hb1
  obtain ⟨c4, _, _, _, _, _, _⟩ := hs1.1.cell
  obtain ⟨g, cap, rfl, _, hg⟩ := hs1.2.1.form (by decide)
  have e0 := own_cell hs1.2.1 0 rfl
  have e1 := own_cell hs1.2.1 1 rfl
  have e2 := own_cell hs1.2.1 2 rfl
  have e3 := own_cell hs1.2.1 3 rfl
  have e4 := own_cell hs1.2.1 4 rfl
  have f0 := hG1.frozen 0
  have f1 := hG1.frozen 1
  have f2 := hG1.frozen 2
  have f3 := hG1.frozen 3
  have f4 := hG1.frozen 4
  have g0 := hG1.cell 0
  have g1 := hG1.cell 1
  have g2 := hG1.cell 2
  have g3 := hG1.cell 3
  have g4 := hG1.cell 4
  simp only [List.getElem?_toArray, List.getElem?_cons_zero, List.getElem?_cons_succ] at g0 g1 g2 g3 g4
  have hl1 := hG1.lt
  have hl2 := hs1.1.lt
  clear hs1 hG1
  go_wp2
  refine bodyPost_ret (v := exPV 2 0 s 0 none 0 0) ?_ rfl ⟨rfl, ((((hbW.setCell (Nat.le_refl _) _).setCell (Nat.le_refl _) _).setCell (Nat.le_refl _) _).setCell (Nat.le_refl _) _).setCell (Nat.le_refl _) _⟩
  simp [results, Tryd.results47, go_sem, g0, g1, g2, g3, g4]
/-- One token in memory. -/
def Tk1 (b : Nat) (k n l : Int) (s : ByteArray) (w : World) : Prop := b < w.heap.size ∧ w.cell? ⟨b, 0, none⟩ = some (.int .i64 k) ∧ w.cell? ⟨b, 1, none⟩ = some (.int .i64 n) ∧ w.cell? ⟨b, 2, none⟩ = some (.int .i64 l) ∧ w.cell? ⟨b, 3, none⟩ = some (.string s)
theorem Tk1.below {b N : Nat} {k n l : Int} {s : ByteArray} {w w' : World} (h : Tk1 b k n l s w) (hb : Below N w w') (hN : b < N) : Tk1 b k n l s w' :=
  ⟨Nat.lt_of_lt_of_le h.1 hb.size, (hb.cell (p := ⟨b, 0, none⟩) hN).trans h.2.1, (hb.cell (p := ⟨b, 1, none⟩) hN).trans h.2.2.1, (hb.cell (p := ⟨b, 2, none⟩) hN).trans h.2.2.2.1, (hb.cell (p := ⟨b, 3, none⟩) hN).trans h.2.2.2.2⟩
set_option maxRecDepth 100000 in
theorem longest_name {b c : Nat} (tn tl : Int) (s : ByteArray) (w : World) (hT : Tk1 b 1 tn tl s w) (hk : NoKw s) (hm : (s.data.toList == [45]) = false) (hsz : s.size ≤ 281474976710656) :
    Calls Tryd.prog 44 #[.slice (some ⟨b, 0, none⟩) 1 c] w fun e w' => e = .returned (.int .i64 1) ∧ Below w.heap.size w w' := by
  go_enter Tryd.func44, Tryd.ntmps44
  go_upto_region 2 with (go_at_call 45; refine (newBuilder_any _).mono ?_; rintro e w1 ⟨B, rfl, hs, hb⟩)
  obtain ⟨hb1, t0, t1, t2, t3⟩ := hT.below hb hT.1
  have hX := Lib.hid ((hb.alloc (Nat.le_of_lt (Nat.lt_of_le_of_lt hs.1.le hs.1.lt)) (.cells #[.int .i64 1, .int .i64 tn, .int .i64 tl, .string s] 61)))
  have hS := Lib.hid (hs.alloc (.cells #[.int .i64 1, .int .i64 tn, .int .i64 tl, .string s] 61))
  have hle := hs.1.le
  clear hs hb hT
  go_wp2
  refine wp_loop_rounds 2 ?_
  rw [rounds_succ]
  go_wp2_with (first | (go_at_call 46; refine (take_name tn tl s _ hS.out (by decide) hk hm hsz).mono ?_; rintro e w2 ⟨rfl, hb2, vp2, hs2⟩; have HS2 := Lib.hid hs2; have HB2 := Lib.hid hb2; clear hs2 hb2) | (go_at_call 54; refine (whole_any _ HS2.out).mono ?_; rintro e w3 ⟨rfl, hb3⟩))
  rw [rounds_succ]
  go_wp2
  go_ret
  have h1 := hX.out.size
  have h2 := HB2.out.size
  exact ⟨rfl, (hX.out.trans (HB2.out.mono hle)).trans (hb3.mono (Nat.le_trans h1 h2))⟩
set_option maxRecDepth 100000 in
set_option maxHeartbeats 1000000 in
theorem expr_name {b c : Nat} (hc : 1 ≤ c) (tn tl : Int) (s : ByteArray) (w : World) (hT : Tk1 b 1 tn tl s w) (hk : NoKw s) (hm : (s.data.toList == [45]) = false) (hsz : s.size ≤ 281474976710656) :
    Calls Tryd.prog 39 #[.slice (some ⟨b, 0, none⟩) 1 c] w fun e w' => e = .returned (.tuple #[exPV 2 0 s 0 none 0 0, .int .i64 1, .int .i64 0]) ∧ Below w.heap.size w w' := by
  have hG := Lib.hid (show Bk (w.alloc (.cells #[.int .i64 0, .int .i64 0, .string ⟨#[]⟩, .int .i64 0, .slice none 0 0] 26)) w.heap.size 26 #[.int .i64 0, .int .i64 0, .string ⟨#[]⟩, .int .i64 0, .slice none 0 0] from Bk.new _ _ _)
  have hb0 := Lib.hid ((Below.refl w.heap.size w).alloc (Nat.le_refl _) (.cells #[.int .i64 0, .int .i64 0, .string ⟨#[]⟩, .int .i64 0, .slice none 0 0] 26))
  have hT0 := Lib.hid (hT.below hb0.out hT.1)
  have hbn := hT.1
  clear hT
  go_enter Tryd.func39, Tryd.ntmps39
  go_upto_region 2 with (go_at_call 44; refine (longest_name tn tl s _ hT0.out hk hm hsz).mono ?_; rintro e w1 ⟨rfl, hb1⟩)
  have hG1 := Lib.hid (hG.out.below hb1)
  have hT1 := Lib.hid (hT0.out.below hb1 hT0.out.1)
  have hB1 := Lib.hid (hb0.out.trans (hb1.mono (by simp)))
  clear hG hT0 hb0 hb1
  go_upto_region 5 with (go_at_call 45; refine (newBuilder_any _).mono ?_; rintro e w2 ⟨B, rfl, hs, hb2⟩)
  have hle := hs.1.le
  have hG2 := Lib.hid (hG1.out.below hb2)
  obtain ⟨hbw, t0, t1, t2, t3⟩ := hT1.out.below hb2 hT1.out.1
  have hX := Lib.hid ((hB1.out.trans (hb2.mono hB1.out.size)).alloc (Nat.le_trans hB1.out.size hb2.size) (.cells #[.int .i64 1, .int .i64 tn, .int .i64 tl, .string s] 61))
  have hS := Lib.hid (hs.alloc (.cells #[.int .i64 1, .int .i64 tn, .int .i64 tl, .string s] 61))
  have hwB : w.heap.size < B := Nat.lt_of_lt_of_le hG1.out.lt hle
  have hGa := Lib.hid (hG2.out.below ((Below.refl w2.heap.size w2).alloc (Nat.le_refl _) (.cells #[.int .i64 1, .int .i64 tn, .int .i64 tl, .string s] 61)))
  clear hs hb2 hT1 hG1 hB1 hG2
  go_wp2
  refine wp_loop_rounds 2 ?_
  rw [rounds_succ]
  go_wp2_with (go_at_call 46; refine (take_name tn tl s _ hS.out (by decide) hk hm hsz).mono ?_; rintro e w3 ⟨rfl, hb3, vp3, hs3⟩; have HS3 := Lib.hid hs3; have HX3 := Lib.hid (hX.out.trans (hb3.mono (Nat.le_of_lt hwB))); have HG3 := Lib.hid ((hb3.block _ hwB).trans hGa.out); clear hs3 hb3 hX hGa hS)
  rw [rounds_succ]
  go_wp2_with (go_at_call 47; refine (finish_one s _ HS3.out).mono ?_; rintro e w4 ⟨rfl, hb4⟩; obtain ⟨_, _, _, _, c8, _, _⟩ := (HS3.out.below hb4).1.cell; have hlB := (HS3.out.below hb4).1.lt; have HX4 := Lib.hid (HX3.out.trans (hb4.mono HX3.out.size)); have hG4 := Bk.below HG3.out hb4; have f0 := hG4.frozen 0; have f1 := hG4.frozen 1; have f2 := hG4.frozen 2; have f3 := hG4.frozen 3; have f4 := hG4.frozen 4; have g0 := hG4.cell 0; have g1 := hG4.cell 1; have g2 := hG4.cell 2; have g3 := hG4.cell 3; have g4 := hG4.cell 4; simp only [List.getElem?_toArray, List.getElem?_cons_zero, List.getElem?_cons_succ] at g0 g1 g2 g3 g4; have hl4 := hG4.lt; clear hb4 HX3 HG3 HS3 hG4)
  refine bodyPost_ret (v := .tuple #[exPV 2 0 s 0 none 0 0, .int .i64 1, .int .i64 0]) ?_ rfl ⟨rfl, (((((HX4.out.setCell (Nat.le_refl _) _).setCell (Nat.le_refl _) _).setCell (Nat.le_refl _) _).setCell (Nat.le_refl _) _).setCell (Nat.le_refl _) _).alloc (by simp; omega) _⟩
  simp [results, Tryd.results39, go_sem, g0, g1, g2, g3, g4, hl4]
end Go.Proofs.YtaabhlkhddkglaaDoor
