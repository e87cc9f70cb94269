/- The parser on one name: begin, take. No condition. -/
import Derived.Test.YtaabhlkhddkglaaDoorPbName
namespace Go.Proofs.YtaabhlkhddkglaaDoor
open Go.RowKit
set_option linter.unusedVariables false
set_option linter.unusedSimpArgs false
attribute [local go_sem] y_undef
set_option maxRecDepth 100000 in
set_option maxHeartbeats 8000000 in
theorem begin_name {base B n m : Nat} {vp vo : Value} {xs ys : List Value} {br : Int} {en dp : Bool} {ln : Int} (tn tl : Int) (s : ByteArray) (w : World) (hs : Bs base B vp n xs vo m ys br en dp ln w) (hn : n ≤ 1000000) (hk : NoKw s) (hm : (s.data.toList == [45]) = false) (hsz : s.size ≤ 281474976710656) :
    Calls Tryd.prog 57 #[.pointer (some ⟨B, 0, none⟩), tkV 1 tn tl s] w fun e w' => e = .returned (.bool true) ∧ Below B w w' ∧ ∃ vp', Bs base B vp' (n + 1) (xs ++ ptC 2 0 s 0 none 0 0 1 tl true) vo m ys br true dp ln w' := by
  have hm' : (s.toList == [45]) = false := by rw [Lib.toList_data]; exact hm
  have hB := hs.1.lt
  have HU0 := Lib.hid (hs.alloc (.cells #[.int .i64 1, .int .i64 tn, .int .i64 tl, .string s] 61))
  have HB0 := Lib.hid ((Below.refl B w).alloc (Nat.le_of_lt hB) (.cells #[.int .i64 1, .int .i64 tn, .int .i64 tl, .string s] 61))
  clear hs hm
  go_enter Tryd.func57, Tryd.ntmps57
  go_upto_region 8 with (go_at_call 74; refine (pnamed_any tn tl s hk _).mono ?_; rintro e w1 ⟨rfl, hb1⟩)
  have hU := (HU0.out.below hb1).below (below_drewN _ _ 1)
  have hBB : Below B w w1.drew := (HB0.out.trans (hb1.mono (by simp; omega))).trans (below_drewN B _ 1)
  have hBs : B ≤ w1.drew.heap.size := by have := hb1.size; simp at this; show B ≤ w1.heap.size; omega
  have hwl : w.heap.size < w1.drew.heap.size := by have := hb1.size; simp at this; show w.heap.size < w1.heap.size; omega
  refine wp_region_held_drew (S := (fun u => (u.cell? ⟨w.heap.size, 0, none⟩ = some (.int .i64 1) ∧ u.cell? ⟨w.heap.size, 1, none⟩ = some (.int .i64 tn) ∧ u.cell? ⟨w.heap.size, 2, none⟩ = some (.int .i64 tl) ∧ u.cell? ⟨w.heap.size, 3, none⟩ = some (.string s)) ∧ w.heap.size < u.heap.size)) (by kernel_rfl) ⟨⟨(hb1.cell (p := ⟨w.heap.size, 0, none⟩) (by simp)).trans (by simp), (hb1.cell (p := ⟨w.heap.size, 1, none⟩) (by simp)).trans (by simp), (hb1.cell (p := ⟨w.heap.size, 2, none⟩) (by simp)).trans (by simp), (hb1.cell (p := ⟨w.heap.size, 3, none⟩) (by simp)).trans (by simp)⟩, hwl⟩ (fun hHeld => ?_)
  clear hb1 HU0 HB0
  have hU : Bs base B vp n xs vo m ys br en dp ln w1.drew := hU
  generalize w1.drew = u1 at *
  refine' wpAnyH_take (i := 0) (v := _) ?_ ?_ ?_ ?_ ?_ ?_ ?_ ?_
  rotate_left 2
  focus (simp only [List.getElem?_toArray, List.getElem?_cons_succ, List.getElem?_cons_zero]; rfl)
  focus kernel_rfl
  focus kernel_rfl
  focus kernel_rfl
  focus exact (fun _ _ _ h => h)
  refine Or.inl ⟨?_, ?_⟩
  focus (go_simp; done)
  focus (intro w hSw; obtain ⟨⟨t0, t1, t2, t3⟩, _⟩ := hSw; (first | (go_simp; done) | (go_simp; with_reducible rfl)))
  focus assumption
  (try simp only [Act.put, List.setIfInBounds_toArray, List.set_cons_zero, List.set_cons_succ])
  refine' wpAnyH_take (i := 1) (v := _) ?_ ?_ ?_ ?_ ?_ ?_ ?_ ?_
  rotate_left 2
  focus (simp only [List.getElem?_toArray, List.getElem?_cons_succ, List.getElem?_cons_zero]; rfl)
  focus kernel_rfl
  focus kernel_rfl
  focus kernel_rfl
  focus exact (fun _ _ _ h => h)
  refine Or.inl ⟨?_, ?_⟩
  focus (go_simp; done)
  focus (intro w hSw; obtain ⟨⟨t0, t1, t2, t3⟩, _⟩ := hSw; (first | (go_simp; done) | (go_simp; with_reducible rfl)))
  focus assumption
  (try simp only [Act.put, List.setIfInBounds_toArray, List.set_cons_zero, List.set_cons_succ])
  refine' wpAnyH_take (i := 4) (v := _) ?_ ?_ ?_ ?_ ?_ ?_ ?_ ?_
  rotate_left 2
  focus (simp only [List.getElem?_toArray, List.getElem?_cons_succ, List.getElem?_cons_zero]; rfl)
  focus kernel_rfl
  focus kernel_rfl
  focus kernel_rfl
  focus exact (fun _ _ _ h => h)
  refine Or.inl ⟨?_, ?_⟩
  focus (go_simp; done)
  focus (intro w hSw; obtain ⟨⟨t0, t1, t2, t3⟩, _⟩ := hSw; (first | (go_simp; done) | (go_simp; with_reducible rfl)))
  focus assumption
  (try simp only [Act.put, List.setIfInBounds_toArray, List.set_cons_zero, List.set_cons_succ])
  refine wpAnyH_ready (rs := [2, 6]) (by kernel_rfl) (by simp) ?_
  refine' AllReadyH.cons ?_ (fun K hK => ?_) ?_
  rotate_left
  focus (simp only [List.getElem?_toArray, List.getElem?_cons_succ, List.getElem?_cons_zero]; rfl)
  focus
    go_simp
    (go_at_call 21; refine (clone_any s hsz _).mono ?_; rintro e w2 ⟨rfl, hb⟩)
    replace hBB := hBB.trans (hb.mono hBs)
    replace hBs := Nat.le_trans hBs hb.size
    replace hU := hU.below hb
    have hS : (fun u => (u.cell? ⟨w.heap.size, 0, none⟩ = some (.int .i64 1) ∧ u.cell? ⟨w.heap.size, 1, none⟩ = some (.int .i64 tn) ∧ u.cell? ⟨w.heap.size, 2, none⟩ = some (.int .i64 tl) ∧ u.cell? ⟨w.heap.size, 3, none⟩ = some (.string s)) ∧ w.heap.size < u.heap.size) w2 := ⟨⟨(hb.cell (p := ⟨w.heap.size, 0, none⟩) hHeld.2).trans hHeld.1.1, (hb.cell (p := ⟨w.heap.size, 1, none⟩) hHeld.2).trans hHeld.1.2.1, (hb.cell (p := ⟨w.heap.size, 2, none⟩) hHeld.2).trans hHeld.1.2.2.1, (hb.cell (p := ⟨w.heap.size, 3, none⟩) hHeld.2).trans hHeld.1.2.2.2⟩, Nat.lt_of_lt_of_le hHeld.2 hb.size⟩
    clear hb
    refine hK.out _ _ hS (fun hHeld => ?_)
    clear hK K hS
    (try simp only [Act.put, List.setIfInBounds_toArray, List.set_cons_zero, List.set_cons_succ])
    refine' wpAnyH_take (i := 3) (v := _) ?_ ?_ ?_ ?_ ?_ ?_ ?_ ?_
    rotate_left 2
    focus (simp only [List.getElem?_toArray, List.getElem?_cons_succ, List.getElem?_cons_zero]; rfl)
    focus kernel_rfl
    focus kernel_rfl
    focus kernel_rfl
    focus exact (fun _ _ _ h => h)
    refine Or.inl ⟨?_, ?_⟩
    focus (go_simp; done)
    focus (intro w hSw; obtain ⟨⟨t0, t1, t2, t3⟩, _⟩ := hSw; (first | (go_simp; done) | (go_simp; with_reducible rfl)))
    focus assumption
    (try simp only [Act.put, List.setIfInBounds_toArray, List.set_cons_zero, List.set_cons_succ])
    refine wpAnyH_ready (rs := [5, 6]) (by kernel_rfl) (by simp) ?_
    refine' AllReadyH.cons ?_ (fun K hK => ?_) ?_
    rotate_left
    focus (simp only [List.getElem?_toArray, List.getElem?_cons_succ, List.getElem?_cons_zero]; rfl)
    focus
      go_simp
      (go_at_call 73; refine (leaf_any 2 0 s 0 none 0 0 1 tn tl s _).mono ?_; rintro e w5 ⟨rfl, hb⟩)
      replace hBB := hBB.trans (hb.mono hBs)
      replace hBs := Nat.le_trans hBs hb.size
      replace hU := hU.below hb
      have hS : (fun u => (u.cell? ⟨w.heap.size, 0, none⟩ = some (.int .i64 1) ∧ u.cell? ⟨w.heap.size, 1, none⟩ = some (.int .i64 tn) ∧ u.cell? ⟨w.heap.size, 2, none⟩ = some (.int .i64 tl) ∧ u.cell? ⟨w.heap.size, 3, none⟩ = some (.string s)) ∧ w.heap.size < u.heap.size) w5 := ⟨⟨(hb.cell (p := ⟨w.heap.size, 0, none⟩) hHeld.2).trans hHeld.1.1, (hb.cell (p := ⟨w.heap.size, 1, none⟩) hHeld.2).trans hHeld.1.2.1, (hb.cell (p := ⟨w.heap.size, 2, none⟩) hHeld.2).trans hHeld.1.2.2.1, (hb.cell (p := ⟨w.heap.size, 3, none⟩) hHeld.2).trans hHeld.1.2.2.2⟩, Nat.lt_of_lt_of_le hHeld.2 hb.size⟩
      clear hb
      refine hK.out _ _ hS (fun hHeld => ?_)
      clear hK K hS
      (try simp only [Act.put, List.setIfInBounds_toArray, List.set_cons_zero, List.set_cons_succ])
      refine wpAnyH_ready (rs := [6]) (by kernel_rfl) (by simp) ?_
      refine' AllReadyH.cons ?_ (fun K hK => ?_) AllReadyH.nil
      rotate_left
      focus (simp only [List.getElem?_toArray, List.getElem?_cons_succ, List.getElem?_cons_zero]; rfl)
      go_simp
      have hb := (Below.refl w5.heap.size w5).alloc (Nat.le_refl _) (.cells #[.int .i64 0, .int .i64 0, .string ⟨#[]⟩, .int .i64 0, .slice none 0 0, .int .i64 0, .int .i64 0, .bool false] 89)
      have hBU := hb
      replace hBB := hBB.trans (hb.mono hBs)
      replace hBs := Nat.le_trans hBs hb.size
      have hwG : w.heap.size < w5.heap.size := hHeld.2
      have hBG : B < w5.heap.size := hU.1.lt
      have hG : Bk (w5.alloc (.cells #[.int .i64 0, .int .i64 0, .string ⟨#[]⟩, .int .i64 0, .slice none 0 0, .int .i64 0, .int .i64 0, .bool false] 89)) w5.heap.size 89 #[.int .i64 0, .int .i64 0, .string ⟨#[]⟩, .int .i64 0, .slice none 0 0, .int .i64 0, .int .i64 0, .bool false] := Bk.new _ _ _
      have hS : (fun u => (u.cell? ⟨w.heap.size, 0, none⟩ = some (.int .i64 1) ∧ u.cell? ⟨w.heap.size, 1, none⟩ = some (.int .i64 tn) ∧ u.cell? ⟨w.heap.size, 2, none⟩ = some (.int .i64 tl) ∧ u.cell? ⟨w.heap.size, 3, none⟩ = some (.string s)) ∧ w.heap.size < u.heap.size) (w5.alloc (.cells #[.int .i64 0, .int .i64 0, .string ⟨#[]⟩, .int .i64 0, .slice none 0 0, .int .i64 0, .int .i64 0, .bool false] 89)) := ⟨⟨(hb.cell (p := ⟨w.heap.size, 0, none⟩) hHeld.2).trans hHeld.1.1, (hb.cell (p := ⟨w.heap.size, 1, none⟩) hHeld.2).trans hHeld.1.2.1, (hb.cell (p := ⟨w.heap.size, 2, none⟩) hHeld.2).trans hHeld.1.2.2.1, (hb.cell (p := ⟨w.heap.size, 3, none⟩) hHeld.2).trans hHeld.1.2.2.2⟩, Nat.lt_of_lt_of_le hHeld.2 hb.size⟩
      clear hb
      refine hK.out _ _ hS (fun hHeld => ?_)
      clear hK K hS
      (try simp only [Act.put, List.setIfInBounds_toArray, List.set_cons_zero, List.set_cons_succ])
      obtain ⟨G, hGe⟩ : ∃ G, w5.heap.size = G := ⟨_, rfl⟩
      have hUG : w5.heap.size ≤ G := by omega
      rw [hGe] at hG hwG hBG ⊢
      generalize (w5.alloc (.cells #[.int .i64 0, .int .i64 0, .string ⟨#[]⟩, .int .i64 0, .slice none 0 0, .int .i64 0, .int .i64 0, .bool false] 89)) = u6 at *
      refine wpAnyH_ready (rs := [7]) (by kernel_rfl) (by simp) ?_
      refine' AllReadyH.cons ?_ (fun K hK => ?_) AllReadyH.nil
      rotate_left
      focus (simp only [List.getElem?_toArray, List.getElem?_cons_succ, List.getElem?_cons_zero]; rfl)
      have g0 := hG.cell 0
      have g1 := hG.cell 1
      have g2 := hG.cell 2
      have g3 := hG.cell 3
      have g4 := hG.cell 4
      have g5 := hG.cell 5
      have g6 := hG.cell 6
      have g7 := hG.cell 7
      have k0 := hG.frozen 0
      have k1 := hG.frozen 1
      have k2 := hG.frozen 2
      have k3 := hG.frozen 3
      have k4 := hG.frozen 4
      have k5 := hG.frozen 5
      have k6 := hG.frozen 6
      have k7 := hG.frozen 7
      simp only [List.getElem?_toArray, List.getElem?_cons_zero, List.getElem?_cons_succ] at g0 g1 g2 g3 g4 g5 g6 g7
      have hGl := hG.lt
      go_simp
      have hBg : Below G u6 ((((((((u6.setCell ⟨G, 0, none⟩ (.int .i64 2)).setCell ⟨G, 1, none⟩ (.int .i64 0)).setCell ⟨G, 2, none⟩ (.string s)).setCell ⟨G, 3, none⟩ (.int .i64 0)).setCell ⟨G, 4, none⟩ (.slice none 0 0)).setCell ⟨G, 5, none⟩ (.int .i64 1)).setCell ⟨G, 6, none⟩ (.int .i64 tl)).setCell ⟨G, 7, none⟩ (.bool false)) := (((((((((Below.refl G u6).setCell (Nat.le_refl _) _).setCell (Nat.le_refl _) _).setCell (Nat.le_refl _) _).setCell (Nat.le_refl _) _).setCell (Nat.le_refl _) _).setCell (Nat.le_refl _) _).setCell (Nat.le_refl _) _).setCell (Nat.le_refl _) _)
      have hG9 : Bk ((((((((u6.setCell ⟨G, 0, none⟩ (.int .i64 2)).setCell ⟨G, 1, none⟩ (.int .i64 0)).setCell ⟨G, 2, none⟩ (.string s)).setCell ⟨G, 3, none⟩ (.int .i64 0)).setCell ⟨G, 4, none⟩ (.slice none 0 0)).setCell ⟨G, 5, none⟩ (.int .i64 1)).setCell ⟨G, 6, none⟩ (.int .i64 tl)).setCell ⟨G, 7, none⟩ (.bool false)) G 89 #[.int .i64 2, .int .i64 0, .string s, .int .i64 0, .slice none 0 0, .int .i64 1, .int .i64 tl, .bool false] := ((((((((hG.set 0 (.int .i64 2)).set 1 (.int .i64 0)).set 2 (.string s)).set 3 (.int .i64 0)).set 4 (.slice none 0 0)).set 5 (.int .i64 1)).set 6 (.int .i64 tl)).set 7 (.bool false))
      have hBW := hBU.trans (hBg.mono hUG)
      have hBX := hBB.trans (hBg.mono (Nat.le_of_lt hBG))
      have hS : (fun u => (u.cell? ⟨w.heap.size, 0, none⟩ = some (.int .i64 1) ∧ u.cell? ⟨w.heap.size, 1, none⟩ = some (.int .i64 tn) ∧ u.cell? ⟨w.heap.size, 2, none⟩ = some (.int .i64 tl) ∧ u.cell? ⟨w.heap.size, 3, none⟩ = some (.string s)) ∧ w.heap.size < u.heap.size) ((((((((u6.setCell ⟨G, 0, none⟩ (.int .i64 2)).setCell ⟨G, 1, none⟩ (.int .i64 0)).setCell ⟨G, 2, none⟩ (.string s)).setCell ⟨G, 3, none⟩ (.int .i64 0)).setCell ⟨G, 4, none⟩ (.slice none 0 0)).setCell ⟨G, 5, none⟩ (.int .i64 1)).setCell ⟨G, 6, none⟩ (.int .i64 tl)).setCell ⟨G, 7, none⟩ (.bool false)) := ⟨⟨(hBg.cell (p := ⟨w.heap.size, 0, none⟩) hwG).trans hHeld.1.1, (hBg.cell (p := ⟨w.heap.size, 1, none⟩) hwG).trans hHeld.1.2.1, (hBg.cell (p := ⟨w.heap.size, 2, none⟩) hwG).trans hHeld.1.2.2.1, (hBg.cell (p := ⟨w.heap.size, 3, none⟩) hwG).trans hHeld.1.2.2.2⟩, Nat.lt_of_lt_of_le hHeld.2 hBg.size⟩
      refine hK.out _ _ hS (fun hHeld => ?_)
      clear hK K hS hBg
      (try simp only [Act.put, List.setIfInBounds_toArray, List.set_cons_zero, List.set_cons_succ])
      refine wpAnyH_done (by kernel_rfl) ?_ _
      generalize ((((((((u6.setCell ⟨G, 0, none⟩ (.int .i64 2)).setCell ⟨G, 1, none⟩ (.int .i64 0)).setCell ⟨G, 2, none⟩ (.string s)).setCell ⟨G, 3, none⟩ (.int .i64 0)).setCell ⟨G, 4, none⟩ (.slice none 0 0)).setCell ⟨G, 5, none⟩ (.int .i64 1)).setCell ⟨G, 6, none⟩ (.int .i64 tl)).setCell ⟨G, 7, none⟩ (.bool false)) = u9 at *
      have hBW1 := hBW.setCell (show w5.heap.size ≤ G from hUG) (.bool true) (p := ⟨G, 7, none⟩)
      have hU9 := hU.below hBW1
      have hX9 := hBX.setCell (Nat.le_of_lt hBG) (.bool true) (p := ⟨G, 7, none⟩)
      clear hBW hBW1 hBX hBU hBB hU hBs g0 g1 g2 g3 g4 g5 g6 g7 k0 k1 k2 k3 k4 k5 k6 k7 hG hGe hUG hHeld hsz hk hm' hGl
      have g0 := hG9.cell 0
      have g1 := hG9.cell 1
      have g2 := hG9.cell 2
      have g3 := hG9.cell 3
      have g4 := hG9.cell 4
      have g5 := hG9.cell 5
      have g6 := hG9.cell 6
      have g7 := hG9.cell 7
      have k7 := hG9.frozen 7
      have hGl := hG9.lt
      simp only [List.getElem?_toArray, List.getElem?_cons_zero, List.getElem?_cons_succ] at g0 g1 g2 g3 g4 g5 g6 g7
      clear hG9
      have hPu := Lib.hid (push_any 2 0 s 0 none 0 0 1 tl true _ hU9 (by omega) hn)
      have hX9 := Lib.hid hX9
      clear hU9
      go_wp2_with (go_at_call 72; refine hPu.out.mono ?_; rintro e w10 ⟨rfl, hb10, vp2, hs10⟩; obtain ⟨_, _, _, c7, _, _, f10⟩ := hs10.1.cell; have f7 := f10 7; have hS10 := Lib.hid hs10; have hlB := hs10.1.lt; clear f10 hs10)
      go_ret
      exact ⟨rfl, (hX9.out.trans hb10).setCell (Nat.le_refl _) _, _, hS10.out.ended true⟩
    refine' AllReadyH.cons ?_ (fun K hK => ?_) ?_
    rotate_left
    focus (simp only [List.getElem?_toArray, List.getElem?_cons_succ, List.getElem?_cons_zero]; rfl)
    focus
      go_simp
      have hb := (Below.refl w2.heap.size w2).alloc (Nat.le_refl _) (.cells #[.int .i64 0, .int .i64 0, .string ⟨#[]⟩, .int .i64 0, .slice none 0 0, .int .i64 0, .int .i64 0, .bool false] 89)
      have hBU := hb
      replace hBB := hBB.trans (hb.mono hBs)
      replace hBs := Nat.le_trans hBs hb.size
      have hwG : w.heap.size < w2.heap.size := hHeld.2
      have hBG : B < w2.heap.size := hU.1.lt
      have hG : Bk (w2.alloc (.cells #[.int .i64 0, .int .i64 0, .string ⟨#[]⟩, .int .i64 0, .slice none 0 0, .int .i64 0, .int .i64 0, .bool false] 89)) w2.heap.size 89 #[.int .i64 0, .int .i64 0, .string ⟨#[]⟩, .int .i64 0, .slice none 0 0, .int .i64 0, .int .i64 0, .bool false] := Bk.new _ _ _
      have hS : (fun u => (u.cell? ⟨w.heap.size, 0, none⟩ = some (.int .i64 1) ∧ u.cell? ⟨w.heap.size, 1, none⟩ = some (.int .i64 tn) ∧ u.cell? ⟨w.heap.size, 2, none⟩ = some (.int .i64 tl) ∧ u.cell? ⟨w.heap.size, 3, none⟩ = some (.string s)) ∧ w.heap.size < u.heap.size) (w2.alloc (.cells #[.int .i64 0, .int .i64 0, .string ⟨#[]⟩, .int .i64 0, .slice none 0 0, .int .i64 0, .int .i64 0, .bool false] 89)) := ⟨⟨(hb.cell (p := ⟨w.heap.size, 0, none⟩) hHeld.2).trans hHeld.1.1, (hb.cell (p := ⟨w.heap.size, 1, none⟩) hHeld.2).trans hHeld.1.2.1, (hb.cell (p := ⟨w.heap.size, 2, none⟩) hHeld.2).trans hHeld.1.2.2.1, (hb.cell (p := ⟨w.heap.size, 3, none⟩) hHeld.2).trans hHeld.1.2.2.2⟩, Nat.lt_of_lt_of_le hHeld.2 hb.size⟩
      clear hb
      refine hK.out _ _ hS (fun hHeld => ?_)
      clear hK K hS
      (try simp only [Act.put, List.setIfInBounds_toArray, List.set_cons_zero, List.set_cons_succ])
      obtain ⟨G, hGe⟩ : ∃ G, w2.heap.size = G := ⟨_, rfl⟩
      have hUG : w2.heap.size ≤ G := by omega
      rw [hGe] at hG hwG hBG ⊢
      generalize (w2.alloc (.cells #[.int .i64 0, .int .i64 0, .string ⟨#[]⟩, .int .i64 0, .slice none 0 0, .int .i64 0, .int .i64 0, .bool false] 89)) = u6 at *
      refine wpAnyH_ready (rs := [5]) (by kernel_rfl) (by simp) ?_
      refine' AllReadyH.cons ?_ (fun K hK => ?_) AllReadyH.nil
      rotate_left
      focus (simp only [List.getElem?_toArray, List.getElem?_cons_succ, List.getElem?_cons_zero]; rfl)
      go_simp
      (go_at_call 73; refine (leaf_any 2 0 s 0 none 0 0 1 tn tl s _).mono ?_; rintro e w5 ⟨rfl, hb⟩)
      replace hBB := hBB.trans (hb.mono hBs)
      replace hBs := Nat.le_trans hBs hb.size
      replace hBU := hBU.trans (hb.mono hBU.size)
      replace hG := hG.below hb
      have hS : (fun u => (u.cell? ⟨w.heap.size, 0, none⟩ = some (.int .i64 1) ∧ u.cell? ⟨w.heap.size, 1, none⟩ = some (.int .i64 tn) ∧ u.cell? ⟨w.heap.size, 2, none⟩ = some (.int .i64 tl) ∧ u.cell? ⟨w.heap.size, 3, none⟩ = some (.string s)) ∧ w.heap.size < u.heap.size) w5 := ⟨⟨(hb.cell (p := ⟨w.heap.size, 0, none⟩) hHeld.2).trans hHeld.1.1, (hb.cell (p := ⟨w.heap.size, 1, none⟩) hHeld.2).trans hHeld.1.2.1, (hb.cell (p := ⟨w.heap.size, 2, none⟩) hHeld.2).trans hHeld.1.2.2.1, (hb.cell (p := ⟨w.heap.size, 3, none⟩) hHeld.2).trans hHeld.1.2.2.2⟩, Nat.lt_of_lt_of_le hHeld.2 hb.size⟩
      clear hb
      refine hK.out _ _ hS (fun hHeld => ?_)
      clear hK K hS
      (try simp only [Act.put, List.setIfInBounds_toArray, List.set_cons_zero, List.set_cons_succ])
      refine wpAnyH_ready (rs := [7]) (by kernel_rfl) (by simp) ?_
      refine' AllReadyH.cons ?_ (fun K hK => ?_) AllReadyH.nil
      rotate_left
      focus (simp only [List.getElem?_toArray, List.getElem?_cons_succ, List.getElem?_cons_zero]; rfl)
      have g0 := hG.cell 0
      have g1 := hG.cell 1
      have g2 := hG.cell 2
      have g3 := hG.cell 3
      have g4 := hG.cell 4
      have g5 := hG.cell 5
      have g6 := hG.cell 6
      have g7 := hG.cell 7
      have k0 := hG.frozen 0
      have k1 := hG.frozen 1
      have k2 := hG.frozen 2
      have k3 := hG.frozen 3
      have k4 := hG.frozen 4
      have k5 := hG.frozen 5
      have k6 := hG.frozen 6
      have k7 := hG.frozen 7
      simp only [List.getElem?_toArray, List.getElem?_cons_zero, List.getElem?_cons_succ] at g0 g1 g2 g3 g4 g5 g6 g7
      have hGl := hG.lt
      go_simp
      have hBg : Below G w5 ((((((((w5.setCell ⟨G, 0, none⟩ (.int .i64 2)).setCell ⟨G, 1, none⟩ (.int .i64 0)).setCell ⟨G, 2, none⟩ (.string s)).setCell ⟨G, 3, none⟩ (.int .i64 0)).setCell ⟨G, 4, none⟩ (.slice none 0 0)).setCell ⟨G, 5, none⟩ (.int .i64 1)).setCell ⟨G, 6, none⟩ (.int .i64 tl)).setCell ⟨G, 7, none⟩ (.bool false)) := (((((((((Below.refl G w5).setCell (Nat.le_refl _) _).setCell (Nat.le_refl _) _).setCell (Nat.le_refl _) _).setCell (Nat.le_refl _) _).setCell (Nat.le_refl _) _).setCell (Nat.le_refl _) _).setCell (Nat.le_refl _) _).setCell (Nat.le_refl _) _)
      have hG9 : Bk ((((((((w5.setCell ⟨G, 0, none⟩ (.int .i64 2)).setCell ⟨G, 1, none⟩ (.int .i64 0)).setCell ⟨G, 2, none⟩ (.string s)).setCell ⟨G, 3, none⟩ (.int .i64 0)).setCell ⟨G, 4, none⟩ (.slice none 0 0)).setCell ⟨G, 5, none⟩ (.int .i64 1)).setCell ⟨G, 6, none⟩ (.int .i64 tl)).setCell ⟨G, 7, none⟩ (.bool false)) G 89 #[.int .i64 2, .int .i64 0, .string s, .int .i64 0, .slice none 0 0, .int .i64 1, .int .i64 tl, .bool false] := ((((((((hG.set 0 (.int .i64 2)).set 1 (.int .i64 0)).set 2 (.string s)).set 3 (.int .i64 0)).set 4 (.slice none 0 0)).set 5 (.int .i64 1)).set 6 (.int .i64 tl)).set 7 (.bool false))
      have hBW := hBU.trans (hBg.mono hUG)
      have hBX := hBB.trans (hBg.mono (Nat.le_of_lt hBG))
      have hS : (fun u => (u.cell? ⟨w.heap.size, 0, none⟩ = some (.int .i64 1) ∧ u.cell? ⟨w.heap.size, 1, none⟩ = some (.int .i64 tn) ∧ u.cell? ⟨w.heap.size, 2, none⟩ = some (.int .i64 tl) ∧ u.cell? ⟨w.heap.size, 3, none⟩ = some (.string s)) ∧ w.heap.size < u.heap.size) ((((((((w5.setCell ⟨G, 0, none⟩ (.int .i64 2)).setCell ⟨G, 1, none⟩ (.int .i64 0)).setCell ⟨G, 2, none⟩ (.string s)).setCell ⟨G, 3, none⟩ (.int .i64 0)).setCell ⟨G, 4, none⟩ (.slice none 0 0)).setCell ⟨G, 5, none⟩ (.int .i64 1)).setCell ⟨G, 6, none⟩ (.int .i64 tl)).setCell ⟨G, 7, none⟩ (.bool false)) := ⟨⟨(hBg.cell (p := ⟨w.heap.size, 0, none⟩) hwG).trans hHeld.1.1, (hBg.cell (p := ⟨w.heap.size, 1, none⟩) hwG).trans hHeld.1.2.1, (hBg.cell (p := ⟨w.heap.size, 2, none⟩) hwG).trans hHeld.1.2.2.1, (hBg.cell (p := ⟨w.heap.size, 3, none⟩) hwG).trans hHeld.1.2.2.2⟩, Nat.lt_of_lt_of_le hHeld.2 hBg.size⟩
      refine hK.out _ _ hS (fun hHeld => ?_)
      clear hK K hS hBg
      (try simp only [Act.put, List.setIfInBounds_toArray, List.set_cons_zero, List.set_cons_succ])
      refine wpAnyH_done (by kernel_rfl) ?_ _
      generalize ((((((((w5.setCell ⟨G, 0, none⟩ (.int .i64 2)).setCell ⟨G, 1, none⟩ (.int .i64 0)).setCell ⟨G, 2, none⟩ (.string s)).setCell ⟨G, 3, none⟩ (.int .i64 0)).setCell ⟨G, 4, none⟩ (.slice none 0 0)).setCell ⟨G, 5, none⟩ (.int .i64 1)).setCell ⟨G, 6, none⟩ (.int .i64 tl)).setCell ⟨G, 7, none⟩ (.bool false)) = u9 at *
      have hBW1 := hBW.setCell (show w2.heap.size ≤ G from hUG) (.bool true) (p := ⟨G, 7, none⟩)
      have hU9 := hU.below hBW1
      have hX9 := hBX.setCell (Nat.le_of_lt hBG) (.bool true) (p := ⟨G, 7, none⟩)
      clear hBW hBW1 hBX hBU hBB hU hBs g0 g1 g2 g3 g4 g5 g6 g7 k0 k1 k2 k3 k4 k5 k6 k7 hG hGe hUG hHeld hsz hk hm' hGl
      have g0 := hG9.cell 0
      have g1 := hG9.cell 1
      have g2 := hG9.cell 2
      have g3 := hG9.cell 3
      have g4 := hG9.cell 4
      have g5 := hG9.cell 5
      have g6 := hG9.cell 6
      have g7 := hG9.cell 7
      have k7 := hG9.frozen 7
      have hGl := hG9.lt
      simp only [List.getElem?_toArray, List.getElem?_cons_zero, List.getElem?_cons_succ] at g0 g1 g2 g3 g4 g5 g6 g7
      clear hG9
      have hPu := Lib.hid (push_any 2 0 s 0 none 0 0 1 tl true _ hU9 (by omega) hn)
      have hX9 := Lib.hid hX9
      clear hU9
      go_wp2_with (go_at_call 72; refine hPu.out.mono ?_; rintro e w10 ⟨rfl, hb10, vp2, hs10⟩; obtain ⟨_, _, _, c7, _, _, f10⟩ := hs10.1.cell; have f7 := f10 7; have hS10 := Lib.hid hs10; have hlB := hs10.1.lt; clear f10 hs10)
      go_ret
      exact ⟨rfl, (hX9.out.trans hb10).setCell (Nat.le_refl _) _, _, hS10.out.ended true⟩
    exact AllReadyH.nil
  refine' AllReadyH.cons ?_ (fun K hK => ?_) ?_
  rotate_left
  focus (simp only [List.getElem?_toArray, List.getElem?_cons_succ, List.getElem?_cons_zero]; rfl)
  focus
    go_simp
    have hb := (Below.refl u1.heap.size u1).alloc (Nat.le_refl _) (.cells #[.int .i64 0, .int .i64 0, .string ⟨#[]⟩, .int .i64 0, .slice none 0 0, .int .i64 0, .int .i64 0, .bool false] 89)
    have hBU := hb
    replace hBB := hBB.trans (hb.mono hBs)
    replace hBs := Nat.le_trans hBs hb.size
    have hwG : w.heap.size < u1.heap.size := hHeld.2
    have hBG : B < u1.heap.size := hU.1.lt
    have hG : Bk (u1.alloc (.cells #[.int .i64 0, .int .i64 0, .string ⟨#[]⟩, .int .i64 0, .slice none 0 0, .int .i64 0, .int .i64 0, .bool false] 89)) u1.heap.size 89 #[.int .i64 0, .int .i64 0, .string ⟨#[]⟩, .int .i64 0, .slice none 0 0, .int .i64 0, .int .i64 0, .bool false] := Bk.new _ _ _
    have hS : (fun u => (u.cell? ⟨w.heap.size, 0, none⟩ = some (.int .i64 1) ∧ u.cell? ⟨w.heap.size, 1, none⟩ = some (.int .i64 tn) ∧ u.cell? ⟨w.heap.size, 2, none⟩ = some (.int .i64 tl) ∧ u.cell? ⟨w.heap.size, 3, none⟩ = some (.string s)) ∧ w.heap.size < u.heap.size) (u1.alloc (.cells #[.int .i64 0, .int .i64 0, .string ⟨#[]⟩, .int .i64 0, .slice none 0 0, .int .i64 0, .int .i64 0, .bool false] 89)) := ⟨⟨(hb.cell (p := ⟨w.heap.size, 0, none⟩) hHeld.2).trans hHeld.1.1, (hb.cell (p := ⟨w.heap.size, 1, none⟩) hHeld.2).trans hHeld.1.2.1, (hb.cell (p := ⟨w.heap.size, 2, none⟩) hHeld.2).trans hHeld.1.2.2.1, (hb.cell (p := ⟨w.heap.size, 3, none⟩) hHeld.2).trans hHeld.1.2.2.2⟩, Nat.lt_of_lt_of_le hHeld.2 hb.size⟩
    clear hb
    refine hK.out _ _ hS (fun hHeld => ?_)
    clear hK K hS
    (try simp only [Act.put, List.setIfInBounds_toArray, List.set_cons_zero, List.set_cons_succ])
    obtain ⟨G, hGe⟩ : ∃ G, u1.heap.size = G := ⟨_, rfl⟩
    have hUG : u1.heap.size ≤ G := by omega
    rw [hGe] at hG hwG hBG ⊢
    generalize (u1.alloc (.cells #[.int .i64 0, .int .i64 0, .string ⟨#[]⟩, .int .i64 0, .slice none 0 0, .int .i64 0, .int .i64 0, .bool false] 89)) = u6 at *
    refine wpAnyH_ready (rs := [2]) (by kernel_rfl) (by simp) ?_
    refine' AllReadyH.cons ?_ (fun K hK => ?_) AllReadyH.nil
    rotate_left
    focus (simp only [List.getElem?_toArray, List.getElem?_cons_succ, List.getElem?_cons_zero]; rfl)
    go_simp
    (go_at_call 21; refine (clone_any s hsz _).mono ?_; rintro e w2 ⟨rfl, hb⟩)
    replace hBB := hBB.trans (hb.mono hBs)
    replace hBs := Nat.le_trans hBs hb.size
    replace hBU := hBU.trans (hb.mono hBU.size)
    replace hG := hG.below hb
    have hS : (fun u => (u.cell? ⟨w.heap.size, 0, none⟩ = some (.int .i64 1) ∧ u.cell? ⟨w.heap.size, 1, none⟩ = some (.int .i64 tn) ∧ u.cell? ⟨w.heap.size, 2, none⟩ = some (.int .i64 tl) ∧ u.cell? ⟨w.heap.size, 3, none⟩ = some (.string s)) ∧ w.heap.size < u.heap.size) w2 := ⟨⟨(hb.cell (p := ⟨w.heap.size, 0, none⟩) hHeld.2).trans hHeld.1.1, (hb.cell (p := ⟨w.heap.size, 1, none⟩) hHeld.2).trans hHeld.1.2.1, (hb.cell (p := ⟨w.heap.size, 2, none⟩) hHeld.2).trans hHeld.1.2.2.1, (hb.cell (p := ⟨w.heap.size, 3, none⟩) hHeld.2).trans hHeld.1.2.2.2⟩, Nat.lt_of_lt_of_le hHeld.2 hb.size⟩
    clear hb
    refine hK.out _ _ hS (fun hHeld => ?_)
    clear hK K hS
    (try simp only [Act.put, List.setIfInBounds_toArray, List.set_cons_zero, List.set_cons_succ])
    refine' wpAnyH_take (i := 3) (v := _) ?_ ?_ ?_ ?_ ?_ ?_ ?_ ?_
    rotate_left 2
    focus (simp only [List.getElem?_toArray, List.getElem?_cons_succ, List.getElem?_cons_zero]; rfl)
    focus kernel_rfl
    focus kernel_rfl
    focus kernel_rfl
    focus exact (fun _ _ _ h => h)
    refine Or.inl ⟨?_, ?_⟩
    focus (go_simp; done)
    focus (intro w hSw; obtain ⟨⟨t0, t1, t2, t3⟩, _⟩ := hSw; (first | (go_simp; done) | (go_simp; with_reducible rfl)))
    focus assumption
    (try simp only [Act.put, List.setIfInBounds_toArray, List.set_cons_zero, List.set_cons_succ])
    refine wpAnyH_ready (rs := [5]) (by kernel_rfl) (by simp) ?_
    refine' AllReadyH.cons ?_ (fun K hK => ?_) AllReadyH.nil
    rotate_left
    focus (simp only [List.getElem?_toArray, List.getElem?_cons_succ, List.getElem?_cons_zero]; rfl)
    go_simp
    (go_at_call 73; refine (leaf_any 2 0 s 0 none 0 0 1 tn tl s _).mono ?_; rintro e w5 ⟨rfl, hb⟩)
    replace hBB := hBB.trans (hb.mono hBs)
    replace hBs := Nat.le_trans hBs hb.size
    replace hBU := hBU.trans (hb.mono hBU.size)
    replace hG := hG.below hb
    have hS : (fun u => (u.cell? ⟨w.heap.size, 0, none⟩ = some (.int .i64 1) ∧ u.cell? ⟨w.heap.size, 1, none⟩ = some (.int .i64 tn) ∧ u.cell? ⟨w.heap.size, 2, none⟩ = some (.int .i64 tl) ∧ u.cell? ⟨w.heap.size, 3, none⟩ = some (.string s)) ∧ w.heap.size < u.heap.size) w5 := ⟨⟨(hb.cell (p := ⟨w.heap.size, 0, none⟩) hHeld.2).trans hHeld.1.1, (hb.cell (p := ⟨w.heap.size, 1, none⟩) hHeld.2).trans hHeld.1.2.1, (hb.cell (p := ⟨w.heap.size, 2, none⟩) hHeld.2).trans hHeld.1.2.2.1, (hb.cell (p := ⟨w.heap.size, 3, none⟩) hHeld.2).trans hHeld.1.2.2.2⟩, Nat.lt_of_lt_of_le hHeld.2 hb.size⟩
    clear hb
    refine hK.out _ _ hS (fun hHeld => ?_)
    clear hK K hS
    (try simp only [Act.put, List.setIfInBounds_toArray, List.set_cons_zero, List.set_cons_succ])
    refine wpAnyH_ready (rs := [7]) (by kernel_rfl) (by simp) ?_
    refine' AllReadyH.cons ?_ (fun K hK => ?_) AllReadyH.nil
    rotate_left
    focus (simp only [List.getElem?_toArray, List.getElem?_cons_succ, List.getElem?_cons_zero]; rfl)
    have g0 := hG.cell 0
    have g1 := hG.cell 1
    have g2 := hG.cell 2
    have g3 := hG.cell 3
    have g4 := hG.cell 4
    have g5 := hG.cell 5
    have g6 := hG.cell 6
    have g7 := hG.cell 7
    have k0 := hG.frozen 0
    have k1 := hG.frozen 1
    have k2 := hG.frozen 2
    have k3 := hG.frozen 3
    have k4 := hG.frozen 4
    have k5 := hG.frozen 5
    have k6 := hG.frozen 6
    have k7 := hG.frozen 7
    simp only [List.getElem?_toArray, List.getElem?_cons_zero, List.getElem?_cons_succ] at g0 g1 g2 g3 g4 g5 g6 g7
    have hGl := hG.lt
    go_simp
    have hBg : Below G w5 ((((((((w5.setCell ⟨G, 0, none⟩ (.int .i64 2)).setCell ⟨G, 1, none⟩ (.int .i64 0)).setCell ⟨G, 2, none⟩ (.string s)).setCell ⟨G, 3, none⟩ (.int .i64 0)).setCell ⟨G, 4, none⟩ (.slice none 0 0)).setCell ⟨G, 5, none⟩ (.int .i64 1)).setCell ⟨G, 6, none⟩ (.int .i64 tl)).setCell ⟨G, 7, none⟩ (.bool false)) := (((((((((Below.refl G w5).setCell (Nat.le_refl _) _).setCell (Nat.le_refl _) _).setCell (Nat.le_refl _) _).setCell (Nat.le_refl _) _).setCell (Nat.le_refl _) _).setCell (Nat.le_refl _) _).setCell (Nat.le_refl _) _).setCell (Nat.le_refl _) _)
    have hG9 : Bk ((((((((w5.setCell ⟨G, 0, none⟩ (.int .i64 2)).setCell ⟨G, 1, none⟩ (.int .i64 0)).setCell ⟨G, 2, none⟩ (.string s)).setCell ⟨G, 3, none⟩ (.int .i64 0)).setCell ⟨G, 4, none⟩ (.slice none 0 0)).setCell ⟨G, 5, none⟩ (.int .i64 1)).setCell ⟨G, 6, none⟩ (.int .i64 tl)).setCell ⟨G, 7, none⟩ (.bool false)) G 89 #[.int .i64 2, .int .i64 0, .string s, .int .i64 0, .slice none 0 0, .int .i64 1, .int .i64 tl, .bool false] := ((((((((hG.set 0 (.int .i64 2)).set 1 (.int .i64 0)).set 2 (.string s)).set 3 (.int .i64 0)).set 4 (.slice none 0 0)).set 5 (.int .i64 1)).set 6 (.int .i64 tl)).set 7 (.bool false))
    have hBW := hBU.trans (hBg.mono hUG)
    have hBX := hBB.trans (hBg.mono (Nat.le_of_lt hBG))
    have hS : (fun u => (u.cell? ⟨w.heap.size, 0, none⟩ = some (.int .i64 1) ∧ u.cell? ⟨w.heap.size, 1, none⟩ = some (.int .i64 tn) ∧ u.cell? ⟨w.heap.size, 2, none⟩ = some (.int .i64 tl) ∧ u.cell? ⟨w.heap.size, 3, none⟩ = some (.string s)) ∧ w.heap.size < u.heap.size) ((((((((w5.setCell ⟨G, 0, none⟩ (.int .i64 2)).setCell ⟨G, 1, none⟩ (.int .i64 0)).setCell ⟨G, 2, none⟩ (.string s)).setCell ⟨G, 3, none⟩ (.int .i64 0)).setCell ⟨G, 4, none⟩ (.slice none 0 0)).setCell ⟨G, 5, none⟩ (.int .i64 1)).setCell ⟨G, 6, none⟩ (.int .i64 tl)).setCell ⟨G, 7, none⟩ (.bool false)) := ⟨⟨(hBg.cell (p := ⟨w.heap.size, 0, none⟩) hwG).trans hHeld.1.1, (hBg.cell (p := ⟨w.heap.size, 1, none⟩) hwG).trans hHeld.1.2.1, (hBg.cell (p := ⟨w.heap.size, 2, none⟩) hwG).trans hHeld.1.2.2.1, (hBg.cell (p := ⟨w.heap.size, 3, none⟩) hwG).trans hHeld.1.2.2.2⟩, Nat.lt_of_lt_of_le hHeld.2 hBg.size⟩
    refine hK.out _ _ hS (fun hHeld => ?_)
    clear hK K hS hBg
    (try simp only [Act.put, List.setIfInBounds_toArray, List.set_cons_zero, List.set_cons_succ])
    refine wpAnyH_done (by kernel_rfl) ?_ _
    generalize ((((((((w5.setCell ⟨G, 0, none⟩ (.int .i64 2)).setCell ⟨G, 1, none⟩ (.int .i64 0)).setCell ⟨G, 2, none⟩ (.string s)).setCell ⟨G, 3, none⟩ (.int .i64 0)).setCell ⟨G, 4, none⟩ (.slice none 0 0)).setCell ⟨G, 5, none⟩ (.int .i64 1)).setCell ⟨G, 6, none⟩ (.int .i64 tl)).setCell ⟨G, 7, none⟩ (.bool false)) = u9 at *
    have hBW1 := hBW.setCell (show u1.heap.size ≤ G from hUG) (.bool true) (p := ⟨G, 7, none⟩)
    have hU9 := hU.below hBW1
    have hX9 := hBX.setCell (Nat.le_of_lt hBG) (.bool true) (p := ⟨G, 7, none⟩)
    clear hBW hBW1 hBX hBU hBB hU hBs g0 g1 g2 g3 g4 g5 g6 g7 k0 k1 k2 k3 k4 k5 k6 k7 hG hGe hUG hHeld hsz hk hm' hGl
    have g0 := hG9.cell 0
    have g1 := hG9.cell 1
    have g2 := hG9.cell 2
    have g3 := hG9.cell 3
    have g4 := hG9.cell 4
    have g5 := hG9.cell 5
    have g6 := hG9.cell 6
    have g7 := hG9.cell 7
    have k7 := hG9.frozen 7
    have hGl := hG9.lt
    simp only [List.getElem?_toArray, List.getElem?_cons_zero, List.getElem?_cons_succ] at g0 g1 g2 g3 g4 g5 g6 g7
    clear hG9
    have hPu := Lib.hid (push_any 2 0 s 0 none 0 0 1 tl true _ hU9 (by omega) hn)
    have hX9 := Lib.hid hX9
    clear hU9
    go_wp2_with (go_at_call 72; refine hPu.out.mono ?_; rintro e w10 ⟨rfl, hb10, vp2, hs10⟩; obtain ⟨_, _, _, c7, _, _, f10⟩ := hs10.1.cell; have f7 := f10 7; have hS10 := Lib.hid hs10; have hlB := hs10.1.lt; clear f10 hs10)
    go_ret
    exact ⟨rfl, (hX9.out.trans hb10).setCell (Nat.le_refl _) _, _, hS10.out.ended true⟩
  exact AllReadyH.nil
end Go.Proofs.YtaabhlkhddkglaaDoor
