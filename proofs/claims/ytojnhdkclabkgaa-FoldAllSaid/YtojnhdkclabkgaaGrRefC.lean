/- The specification of layer 12: which blocks are right. No condition. -/
import Derived.Test.YtojnhdkclabkgaaGrRefB
import Derived.Deep.RegionWith
import Derived.Deep.DeepCutAuto
import Derived.Deep.CutBlock
namespace Go.Proofs.Ytojnhdkclabkgaa
open Go.RowKit
set_option linter.unusedVariables false
set_option linter.unusedSimpArgs false
attribute [local go_sem] y_undef
/-- A graph's and a block's boxes. -/
def GBx (w : World) (B C : Nat) (gc bc : Array Value) (u : World) : Prop := Below w.heap.size w u ∧ Bk u B 40 gc ∧ Bk u C 34 bc
theorem GBx.below {w u u' : World} {B C : Nat} {gc bc : Array Value} (h : GBx w B C gc bc u) (hb : Below u.heap.size u u') : GBx w B C gc bc u' := ⟨blt h.1 hb, h.2.1.below hb, h.2.2.below hb⟩
theorem GBx.drew {w u : World} {B C : Nat} {gc bc : Array Value} (h : GBx w B C gc bc u) : GBx w B C gc bc u.drew := h.below (below_drewN _ _ 1)
theorem gbx_new (w : World) (gc bc : Array Value) : GBx w w.heap.size (w.heap.size + 1) gc bc ((w.alloc (.cells gc 40)).alloc (.cells bc 34)) := by
  refine ⟨bla (bla (Below.refl _ _) _) _, (Bk.new w _ _).below (bla (Below.refl _ _) _), ?_⟩
  have := Bk.new (w.alloc (.cells gc 40)) 34 bc
  rw [size_alloc] at this
  exact this
theorem blkOk_ops {V A n : Int} {b : Gr.Blk} (h : Gr.opsOk V A b.ops = false) : Gr.blkOk V A n b = false := by unfold Gr.blkOk; rw [h]; rfl
theorem blkOk_next {V A n : Int} {b : Gr.Blk} (h : Gr.nxOk V n b = false) : Gr.blkOk V A n b = false := by unfold Gr.blkOk; rw [h]; simp
theorem nxOk_bad {V n : Int} {b : Gr.Blk} {q : Nat} (hq : q < b.next.length) (h : Gr.nxAt n (b.next.getD q 0) = false) : Gr.nxOk V n b = false := by unfold Gr.nxOk; rw [all_false hq h]; rfl
theorem nx_at (n x : Int) : Gr.nxAt n x = (decide (1 ≤ x) && decide (x < n)) := by
  unfold Gr.nxAt Gr.inn
  by_cases h1 : x = 0
  · subst h1; simp
  · by_cases h2 : 0 ≤ x
    · have : 1 ≤ x := by omega
      simp [h1, h2, this]
    · have : ¬ 1 ≤ x := by omega
      simp [h2, this]
set_option maxRecDepth 100000 in
set_option maxHeartbeats 16000000 in
theorem rblk_any (Ai Aa Ab Ap Ah : Option Addr) (ni ci na ca nb cb np cp nh ch : Nat) (V K S : Int) (hna : na ≤ maxLen) (hnb : nb ≤ maxLen) (b : Gr.Blk) (vo vn : Value) (r : Bool) (hr : Gr.blkOk V na nb b = r) (w : World) (ho : OpsIn w vo b.ops) (hn : NumsIn w vn b.next) (hm : b.ops.length ≤ maxLen ∧ b.next.length ≤ maxLen) :
    Calls Try.prog 48 #[.agg #[.slice Ai ni ci, .int .i64 V, .int .i64 K, .slice Aa na ca, .int .i64 S, .slice Ab nb cb, .slice Ap np cp, .slice Ah nh ch], .agg #[vo, .int .i64 b.cond, vn]] w fun e w' => e = .returned (.bool r) ∧ Below w.heap.size w w' := by
  obtain ⟨Ao, co, rfl, hop⟩ := ho.opened
  obtain ⟨An, cn, rfl, hnx⟩ := hn.opened
  obtain ⟨no, hno⟩ : ∃ n, b.ops.length = n := ⟨_, rfl⟩
  obtain ⟨nn, hnn⟩ : ∃ n, b.next.length = n := ⟨_, rfl⟩
  obtain ⟨cd, hcd⟩ : ∃ n, b.cond = n := ⟨_, rfl⟩
  rw [hno, hnn] at hm
  rw [hno] at hop
  rw [hnn] at hnx
  rw [hno, hnn, hcd]
  obtain ⟨hm1, hm2⟩ := hm
  have HM := Lib.hid (And.intro hm1 hm2)
  unfold maxLen at hm1 hm2
  have HNo := Lib.hid hno
  have HNn := Lib.hid hnn
  have HCd := Lib.hid hcd
  have HOp := Lib.hid hop
  have HNx := Lib.hid hnx
  have HR := Lib.hid hr
  have HS0 := Lib.hid (gbx_new w #[.slice Ai ni ci, .int .i64 V, .int .i64 K, .slice Aa na ca, .int .i64 S, .slice Ab nb cb, .slice Ap np cp, .slice Ah nh ch] #[.slice Ao no co, .int .i64 cd, .slice An nn cn])
  have HG8 := Lib.hid (show ∀ u, GBx w w.heap.size (w.heap.size + 1) #[.slice Ai ni ci, .int .i64 V, .int .i64 K, .slice Aa na ca, .int .i64 S, .slice Ab nb cb, .slice Ap np cp, .slice Ah nh ch] #[.slice Ao no co, .int .i64 cd, .slice An nn cn] u → u.cell? ⟨w.heap.size + 1, 0, none⟩ = some (.slice Ao no co) from fun u h => h.2.2.cell 0)
  clear ho hn hno hnn hcd hop hnx hr
  go_enter Try.func48, Try.ntmps48
  go_wp2
  go_loopw [5] (fun i wr => ∃ k : Nat, k ≤ no ∧ i = .int .i64 k ∧ Hid (GBx w w.heap.size (w.heap.size + 1) #[.slice Ai ni ci, .int .i64 V, .int .i64 K, .slice Aa na ca, .int .i64 S, .slice Ab nb cb, .slice Ap np cp, .slice Ah nh ch] #[.slice Ao no co, .int .i64 cd, .slice An nn cn] wr) ∧ Hid (∀ j, j < k → Gr.opAt V na b.ops j = true)) (fun i _ => no - (intOf i).toNat)
  case atStart => exact ⟨0, Nat.zero_le _, rfl, HS0, Lib.hid fun j hj => absurd hj (Nat.not_lt_zero _)⟩
  case round =>
    obtain ⟨k, hk, rfl, HS, HF⟩ := hrel
    have o0 := HS.out.2.2.cell 0
    by_cases hlt : k < no
    · have hlt' : (k : Int) < no := by omega
      have hlt0 : (0 : Int) ≤ (k : Int) := by omega
      obtain ⟨bbk, off, rfl, hbb, hx0, hx1, hx2, hx3, hx4⟩ := HOp.out k hlt
      have HAt := Lib.hid (show Gr.opAt V na b.ops k = (Gr.opOk V na (b.ops.getD k Gr.op0) && !(decide ((b.ops.getD k Gr.op0).kind = 6) && decide (k ≠ 0)) && !(decide ((b.ops.getD k Gr.op0).kind = 7) && decide (k + 1 ≠ no))) by rw [← HNo.out]; rfl)
      generalize (b.ops.getD k Gr.op0) = o at *
      obtain ⟨kd, d, a, bb, i⟩ := o
      simp only at hx0 hx1 hx2 hx3 hx4
      have HOpn := Lib.hid fun (u : World) (hS : GBx w w.heap.size (w.heap.size + 1) #[.slice Ai ni ci, .int .i64 V, .int .i64 K, .slice Aa na ca, .int .i64 S, .slice Ab nb cb, .slice Ap np cp, .slice Ah nh ch] #[.slice (some ⟨bbk, off, none⟩) no co, .int .i64 cd, .slice An nn cn] u) => And.intro (hS.2.1.cell 0) (And.intro (hS.2.1.cell 1) (And.intro (hS.2.1.cell 2) (And.intro (hS.2.1.cell 3) (And.intro (hS.2.1.cell 4) (And.intro (hS.2.1.cell 5) (And.intro (hS.2.1.cell 6) (And.intro (hS.2.1.cell 7) (And.intro (hS.2.2.cell 0) (And.intro ((hS.1.cell (p := ⟨bbk, off + k * 5, none⟩) hbb).trans hx0) (And.intro ((hS.1.cell (p := ⟨bbk, off + k * 5 + 1, none⟩) hbb).trans hx1) (And.intro ((hS.1.cell (p := ⟨bbk, off + k * 5 + 2, none⟩) hbb).trans hx2) (And.intro ((hS.1.cell (p := ⟨bbk, off + k * 5 + 3, none⟩) hbb).trans hx3) ((hS.1.cell (p := ⟨bbk, off + k * 5 + 4, none⟩) hbb).trans hx4)))))))))))))
      go_upto_region 4 with fail
      cases h1 : Gr.opOk V na ⟨kd, d, a, bb, i⟩
      · have H1 := Lib.hid h1
        clear h1
        have HBad := Lib.hid (show Gr.blkOk V na nb b = false by rw [blkOk_ops (all_false (by rw [HNo.out]; exact hlt) (HAt.out.trans (by rw [show _ = _ from H1.out]; rfl)))])
        refine wp_region_held_drew (S := (fun u => GBx w w.heap.size (w.heap.size + 1) #[.slice Ai ni ci, .int .i64 V, .int .i64 K, .slice Aa na ca, .int .i64 S, .slice Ab nb cb, .slice Ap np cp, .slice Ah nh ch] #[.slice (some ⟨bbk, off, none⟩) no co, .int .i64 cd, .slice An nn cn] u)) (by kernel_rfl) (by exact HS.out.drew) (fun hHeld => ?_)
        refine' wpAnyH_take (i := 0) (v := _) ?_ ?_ ?_ ?_ ?_ ?_ ?_ ?_
        rotate_left 2
        focus (simp only [List.getElem?_toArray, List.getElem?_cons_succ, List.getElem?_cons_zero]; rfl)
        focus kernel_rfl
        focus kernel_rfl
        focus kernel_rfl
        focus exact (fun _ _ _ h => h)
        refine Or.inl ⟨?_, ?_⟩
        focus (go_simp; done)
        focus (intro w hSw; obtain ⟨g0, g1, g2, g3, g4, g5, g6, g7, o0, x0, x1, x2, x3, x4⟩ := HOpn.out _ hSw; (first | (go_simp; done) | (go_simp; with_reducible rfl)))
        focus assumption
        (try simp only [Act.put, List.setIfInBounds_toArray, List.set_cons_zero, List.set_cons_succ])
        refine' wpAnyH_take (i := 1) (v := _) ?_ ?_ ?_ ?_ ?_ ?_ ?_ ?_
        rotate_left 2
        focus (simp only [List.getElem?_toArray, List.getElem?_cons_succ, List.getElem?_cons_zero]; rfl)
        focus kernel_rfl
        focus kernel_rfl
        focus kernel_rfl
        focus exact (fun _ _ _ h => h)
        refine Or.inl ⟨?_, ?_⟩
        focus (go_simp; done)
        focus (intro w hSw; obtain ⟨g0, g1, g2, g3, g4, g5, g6, g7, o0, x0, x1, x2, x3, x4⟩ := HOpn.out _ hSw; (first | (go_simp; done) | (go_simp; with_reducible rfl)))
        focus assumption
        (try simp only [Act.put, List.setIfInBounds_toArray, List.set_cons_zero, List.set_cons_succ])
        refine' wpAnyH_take (i := 2) (v := _) ?_ ?_ ?_ ?_ ?_ ?_ ?_ ?_
        rotate_left 2
        focus (simp only [List.getElem?_toArray, List.getElem?_cons_succ, List.getElem?_cons_zero]; rfl)
        focus kernel_rfl
        focus kernel_rfl
        focus kernel_rfl
        focus exact (fun _ _ _ h => h)
        refine Or.inl ⟨?_, ?_⟩
        focus (go_simp; done)
        focus (intro w hSw; obtain ⟨g0, g1, g2, g3, g4, g5, g6, g7, o0, x0, x1, x2, x3, x4⟩ := HOpn.out _ hSw; (first | (go_simp; done) | (go_simp; with_reducible rfl)))
        focus assumption
        (try simp only [Act.put, List.setIfInBounds_toArray, List.set_cons_zero, List.set_cons_succ])
        refine' wpAnyH_take (i := 3) (v := _) ?_ ?_ ?_ ?_ ?_ ?_ ?_ ?_
        rotate_left 2
        focus (simp only [List.getElem?_toArray, List.getElem?_cons_succ, List.getElem?_cons_zero]; rfl)
        focus kernel_rfl
        focus kernel_rfl
        focus kernel_rfl
        focus exact (fun _ _ _ h => h)
        refine Or.inl ⟨?_, ?_⟩
        focus (go_simp; done)
        focus (intro w hSw; obtain ⟨g0, g1, g2, g3, g4, g5, g6, g7, o0, x0, x1, x2, x3, x4⟩ := HOpn.out _ hSw; (first | (go_simp; done) | (go_simp; with_reducible rfl)))
        focus assumption
        (try simp only [Act.put, List.setIfInBounds_toArray, List.set_cons_zero, List.set_cons_succ])
        refine' wpAnyH_take (i := 4) (v := _) ?_ ?_ ?_ ?_ ?_ ?_ ?_ ?_
        rotate_left 2
        focus (simp only [List.getElem?_toArray, List.getElem?_cons_succ, List.getElem?_cons_zero]; rfl)
        focus kernel_rfl
        focus kernel_rfl
        focus kernel_rfl
        focus exact (fun _ _ _ h => h)
        refine Or.inl ⟨?_, ?_⟩
        focus (go_simp; done)
        focus (intro w hSw; obtain ⟨g0, g1, g2, g3, g4, g5, g6, g7, o0, x0, x1, x2, x3, x4⟩ := HOpn.out _ hSw; (first | (go_simp; done) | (go_simp; with_reducible rfl)))
        focus assumption
        (try simp only [Act.put, List.setIfInBounds_toArray, List.set_cons_zero, List.set_cons_succ])
        refine' wpAnyH_take (i := 5) (v := _) ?_ ?_ ?_ ?_ ?_ ?_ ?_ ?_
        rotate_left 2
        focus (simp only [List.getElem?_toArray, List.getElem?_cons_succ, List.getElem?_cons_zero]; rfl)
        focus kernel_rfl
        focus kernel_rfl
        focus kernel_rfl
        focus exact (fun _ _ _ h => h)
        refine Or.inl ⟨?_, ?_⟩
        focus (go_simp; done)
        focus (intro w hSw; obtain ⟨g0, g1, g2, g3, g4, g5, g6, g7, o0, x0, x1, x2, x3, x4⟩ := HOpn.out _ hSw; (first | (go_simp; done) | (go_simp; with_reducible rfl)))
        focus assumption
        (try simp only [Act.put, List.setIfInBounds_toArray, List.set_cons_zero, List.set_cons_succ])
        refine wpAnyH_ready (rs := [6]) (by kernel_rfl) (by simp) ?_
        refine' AllReadyH.cons ?_ (fun K hK => ?_) AllReadyH.nil
        rotate_left
        focus (simp only [List.getElem?_toArray, List.getElem?_cons_succ, List.getElem?_cons_zero]; rfl)
        go_simp
        (go_at_call 92; refine (rp_any _ _ _ _ _ _ _ _ _ _ _ _ _ _ _ _ _ _ hna kd d a bb i _ H1.out _).mono ?_; rintro e w4 ⟨rfl, hb⟩)
        refine hK.out _ _ (hHeld.below hb) (fun hHeld => ?_)
        clear hK K
        (try simp only [Act.put, List.setIfInBounds_toArray, List.set_cons_zero, List.set_cons_succ])
        clear hb
        refine' wpAnyH_take (i := 7) (v := _) ?_ ?_ ?_ ?_ ?_ ?_ ?_ ?_
        rotate_left 2
        focus (simp only [List.getElem?_toArray, List.getElem?_cons_succ, List.getElem?_cons_zero]; rfl)
        focus kernel_rfl
        focus kernel_rfl
        focus kernel_rfl
        focus exact (fun _ _ _ h => h)
        refine Or.inl ⟨?_, ?_⟩
        focus (go_simp; done)
        focus (intro w hSw; obtain ⟨g0, g1, g2, g3, g4, g5, g6, g7, o0, x0, x1, x2, x3, x4⟩ := HOpn.out _ hSw; (first | (go_simp; done) | (go_simp; with_reducible rfl)))
        focus assumption
        (try simp only [Act.put, List.setIfInBounds_toArray, List.set_cons_zero, List.set_cons_succ])
        refine' wpAnyH_take (i := 8) (v := _) ?_ ?_ ?_ ?_ ?_ ?_ ?_ ?_
        rotate_left 2
        focus (simp only [List.getElem?_toArray, List.getElem?_cons_succ, List.getElem?_cons_zero]; rfl)
        focus kernel_rfl
        focus kernel_rfl
        focus kernel_rfl
        focus exact (fun _ _ _ h => h)
        refine Or.inl ⟨?_, ?_⟩
        focus (go_simp; done)
        focus (intro w hSw; obtain ⟨g0, g1, g2, g3, g4, g5, g6, g7, o0, x0, x1, x2, x3, x4⟩ := HOpn.out _ hSw; (first | (go_simp; done) | (go_simp; with_reducible rfl)))
        focus assumption
        (try simp only [Act.put, List.setIfInBounds_toArray, List.set_cons_zero, List.set_cons_succ])
        refine' wpAnyH_take (i := 9) (v := undef) ?_ ?_ ?_ ?_ ?_ ?_ ?_ ?_
        rotate_left 1
        focus (simp only [List.getElem?_toArray, List.getElem?_cons_succ, List.getElem?_cons_zero]; rfl)
        focus kernel_rfl
        focus kernel_rfl
        focus kernel_rfl
        focus exact (fun _ _ _ h => h)
        refine Or.inr ⟨?_, rfl⟩
        focus (go_simp; done)
        focus assumption
        (try simp only [Act.put, List.setIfInBounds_toArray, List.set_cons_zero, List.set_cons_succ])
        refine' wpAnyH_take (i := 10) (v := undef) ?_ ?_ ?_ ?_ ?_ ?_ ?_ ?_
        rotate_left 1
        focus (simp only [List.getElem?_toArray, List.getElem?_cons_succ, List.getElem?_cons_zero]; rfl)
        focus kernel_rfl
        focus kernel_rfl
        focus kernel_rfl
        focus exact (fun _ _ _ h => h)
        refine Or.inr ⟨?_, rfl⟩
        focus (go_simp; done)
        focus assumption
        (try simp only [Act.put, List.setIfInBounds_toArray, List.set_cons_zero, List.set_cons_succ])
        refine' wpAnyH_take (i := 11) (v := undef) ?_ ?_ ?_ ?_ ?_ ?_ ?_ ?_
        rotate_left 1
        focus (simp only [List.getElem?_toArray, List.getElem?_cons_succ, List.getElem?_cons_zero]; rfl)
        focus kernel_rfl
        focus kernel_rfl
        focus kernel_rfl
        focus exact (fun _ _ _ h => h)
        refine Or.inr ⟨?_, rfl⟩
        focus (go_simp; done)
        focus assumption
        (try simp only [Act.put, List.setIfInBounds_toArray, List.set_cons_zero, List.set_cons_succ])
        refine' wpAnyH_take (i := 12) (v := undef) ?_ ?_ ?_ ?_ ?_ ?_ ?_ ?_
        rotate_left 1
        focus (simp only [List.getElem?_toArray, List.getElem?_cons_succ, List.getElem?_cons_zero]; rfl)
        focus kernel_rfl
        focus kernel_rfl
        focus kernel_rfl
        focus exact (fun _ _ _ h => h)
        refine Or.inr ⟨?_, rfl⟩
        focus (go_simp; done)
        focus assumption
        (try simp only [Act.put, List.setIfInBounds_toArray, List.set_cons_zero, List.set_cons_succ])
        refine' wpAnyH_take (i := 13) (v := undef) ?_ ?_ ?_ ?_ ?_ ?_ ?_ ?_
        rotate_left 1
        focus (simp only [List.getElem?_toArray, List.getElem?_cons_succ, List.getElem?_cons_zero]; rfl)
        focus kernel_rfl
        focus kernel_rfl
        focus kernel_rfl
        focus exact (fun _ _ _ h => h)
        refine Or.inr ⟨?_, rfl⟩
        focus (go_simp; done)
        focus assumption
        (try simp only [Act.put, List.setIfInBounds_toArray, List.set_cons_zero, List.set_cons_succ])
        refine' wpAnyH_take (i := 14) (v := undef) ?_ ?_ ?_ ?_ ?_ ?_ ?_ ?_
        rotate_left 1
        focus (simp only [List.getElem?_toArray, List.getElem?_cons_succ, List.getElem?_cons_zero]; rfl)
        focus kernel_rfl
        focus kernel_rfl
        focus kernel_rfl
        focus exact (fun _ _ _ h => h)
        refine Or.inr ⟨?_, rfl⟩
        focus (go_simp; done)
        focus assumption
        (try simp only [Act.put, List.setIfInBounds_toArray, List.set_cons_zero, List.set_cons_succ])
        refine' wpAnyH_take (i := 15) (v := undef) ?_ ?_ ?_ ?_ ?_ ?_ ?_ ?_
        rotate_left 1
        focus (simp only [List.getElem?_toArray, List.getElem?_cons_succ, List.getElem?_cons_zero]; rfl)
        focus kernel_rfl
        focus kernel_rfl
        focus kernel_rfl
        focus exact (fun _ _ _ h => h)
        refine Or.inr ⟨?_, rfl⟩
        focus (go_simp; done)
        focus assumption
        (try simp only [Act.put, List.setIfInBounds_toArray, List.set_cons_zero, List.set_cons_succ])
        refine' wpAnyH_take (i := 16) (v := undef) ?_ ?_ ?_ ?_ ?_ ?_ ?_ ?_
        rotate_left 1
        focus (simp only [List.getElem?_toArray, List.getElem?_cons_succ, List.getElem?_cons_zero]; rfl)
        focus kernel_rfl
        focus kernel_rfl
        focus kernel_rfl
        focus exact (fun _ _ _ h => h)
        refine Or.inr ⟨?_, rfl⟩
        focus (go_simp; done)
        focus assumption
        (try simp only [Act.put, List.setIfInBounds_toArray, List.set_cons_zero, List.set_cons_succ])
        refine' wpAnyH_take (i := 17) (v := undef) ?_ ?_ ?_ ?_ ?_ ?_ ?_ ?_
        rotate_left 1
        focus (simp only [List.getElem?_toArray, List.getElem?_cons_succ, List.getElem?_cons_zero]; rfl)
        focus kernel_rfl
        focus kernel_rfl
        focus kernel_rfl
        focus exact (fun _ _ _ h => h)
        refine Or.inr ⟨?_, rfl⟩
        focus (go_simp; done)
        focus assumption
        (try simp only [Act.put, List.setIfInBounds_toArray, List.set_cons_zero, List.set_cons_succ])
        refine' wpAnyH_take (i := 18) (v := undef) ?_ ?_ ?_ ?_ ?_ ?_ ?_ ?_
        rotate_left 1
        focus (simp only [List.getElem?_toArray, List.getElem?_cons_succ, List.getElem?_cons_zero]; rfl)
        focus kernel_rfl
        focus kernel_rfl
        focus kernel_rfl
        focus exact (fun _ _ _ h => h)
        refine Or.inr ⟨?_, rfl⟩
        focus (go_simp; done)
        focus assumption
        (try simp only [Act.put, List.setIfInBounds_toArray, List.set_cons_zero, List.set_cons_succ])
        refine' wpAnyH_take (i := 19) (v := undef) ?_ ?_ ?_ ?_ ?_ ?_ ?_ ?_
        rotate_left 1
        focus (simp only [List.getElem?_toArray, List.getElem?_cons_succ, List.getElem?_cons_zero]; rfl)
        focus kernel_rfl
        focus kernel_rfl
        focus kernel_rfl
        focus exact (fun _ _ _ h => h)
        refine Or.inr ⟨?_, rfl⟩
        focus (go_simp; done)
        focus assumption
        (try simp only [Act.put, List.setIfInBounds_toArray, List.set_cons_zero, List.set_cons_succ])
        refine' wpAnyH_take (i := 20) (v := _) ?_ ?_ ?_ ?_ ?_ ?_ ?_ ?_
        rotate_left 2
        focus (simp only [List.getElem?_toArray, List.getElem?_cons_succ, List.getElem?_cons_zero]; rfl)
        focus kernel_rfl
        focus kernel_rfl
        focus kernel_rfl
        focus exact (fun _ _ _ h => h)
        refine Or.inl ⟨?_, ?_⟩
        focus (go_simp; done)
        focus (intro w hSw; obtain ⟨g0, g1, g2, g3, g4, g5, g6, g7, o0, x0, x1, x2, x3, x4⟩ := HOpn.out _ hSw; (first | (go_simp; done) | (go_simp; with_reducible rfl)))
        focus assumption
        (try simp only [Act.put, List.setIfInBounds_toArray, List.set_cons_zero, List.set_cons_succ])
        refine' wpAnyH_take (i := 21) (v := _) ?_ ?_ ?_ ?_ ?_ ?_ ?_ ?_
        rotate_left 2
        focus (simp only [List.getElem?_toArray, List.getElem?_cons_succ, List.getElem?_cons_zero]; rfl)
        focus kernel_rfl
        focus kernel_rfl
        focus kernel_rfl
        focus exact (fun _ _ _ h => h)
        refine Or.inl ⟨?_, ?_⟩
        focus (go_simp; done)
        focus (intro w hSw; obtain ⟨g0, g1, g2, g3, g4, g5, g6, g7, o0, x0, x1, x2, x3, x4⟩ := HOpn.out _ hSw; (first | (go_simp; done) | (go_simp; with_reducible rfl)))
        focus assumption
        (try simp only [Act.put, List.setIfInBounds_toArray, List.set_cons_zero, List.set_cons_succ])
        refine' wpAnyH_take (i := 22) (v := undef) ?_ ?_ ?_ ?_ ?_ ?_ ?_ ?_
        rotate_left 1
        focus (simp only [List.getElem?_toArray, List.getElem?_cons_succ, List.getElem?_cons_zero]; rfl)
        focus kernel_rfl
        focus kernel_rfl
        focus kernel_rfl
        focus exact (fun _ _ _ h => h)
        refine Or.inr ⟨?_, rfl⟩
        focus (go_simp; done)
        focus assumption
        (try simp only [Act.put, List.setIfInBounds_toArray, List.set_cons_zero, List.set_cons_succ])
        refine' wpAnyH_take (i := 23) (v := undef) ?_ ?_ ?_ ?_ ?_ ?_ ?_ ?_
        rotate_left 1
        focus (simp only [List.getElem?_toArray, List.getElem?_cons_succ, List.getElem?_cons_zero]; rfl)
        focus kernel_rfl
        focus kernel_rfl
        focus kernel_rfl
        focus exact (fun _ _ _ h => h)
        refine Or.inr ⟨?_, rfl⟩
        focus (go_simp; done)
        focus assumption
        (try simp only [Act.put, List.setIfInBounds_toArray, List.set_cons_zero, List.set_cons_succ])
        refine' wpAnyH_take (i := 24) (v := undef) ?_ ?_ ?_ ?_ ?_ ?_ ?_ ?_
        rotate_left 1
        focus (simp only [List.getElem?_toArray, List.getElem?_cons_succ, List.getElem?_cons_zero]; rfl)
        focus kernel_rfl
        focus kernel_rfl
        focus kernel_rfl
        focus exact (fun _ _ _ h => h)
        refine Or.inr ⟨?_, rfl⟩
        focus (go_simp; done)
        focus assumption
        (try simp only [Act.put, List.setIfInBounds_toArray, List.set_cons_zero, List.set_cons_succ])
        refine' wpAnyH_take (i := 25) (v := undef) ?_ ?_ ?_ ?_ ?_ ?_ ?_ ?_
        rotate_left 1
        focus (simp only [List.getElem?_toArray, List.getElem?_cons_succ, List.getElem?_cons_zero]; rfl)
        focus kernel_rfl
        focus kernel_rfl
        focus kernel_rfl
        focus exact (fun _ _ _ h => h)
        refine Or.inr ⟨?_, rfl⟩
        focus (go_simp; done)
        focus assumption
        (try simp only [Act.put, List.setIfInBounds_toArray, List.set_cons_zero, List.set_cons_succ])
        refine' wpAnyH_take (i := 26) (v := undef) ?_ ?_ ?_ ?_ ?_ ?_ ?_ ?_
        rotate_left 1
        focus (simp only [List.getElem?_toArray, List.getElem?_cons_succ, List.getElem?_cons_zero]; rfl)
        focus kernel_rfl
        focus kernel_rfl
        focus kernel_rfl
        focus exact (fun _ _ _ h => h)
        refine Or.inr ⟨?_, rfl⟩
        focus (go_simp; done)
        focus assumption
        (try simp only [Act.put, List.setIfInBounds_toArray, List.set_cons_zero, List.set_cons_succ])
        refine' wpAnyH_take (i := 27) (v := undef) ?_ ?_ ?_ ?_ ?_ ?_ ?_ ?_
        rotate_left 1
        focus (simp only [List.getElem?_toArray, List.getElem?_cons_succ, List.getElem?_cons_zero]; rfl)
        focus kernel_rfl
        focus kernel_rfl
        focus kernel_rfl
        focus exact (fun _ _ _ h => h)
        refine Or.inr ⟨?_, rfl⟩
        focus (go_simp; done)
        focus assumption
        (try simp only [Act.put, List.setIfInBounds_toArray, List.set_cons_zero, List.set_cons_succ])
        refine' wpAnyH_take (i := 28) (v := undef) ?_ ?_ ?_ ?_ ?_ ?_ ?_ ?_
        rotate_left 1
        focus (simp only [List.getElem?_toArray, List.getElem?_cons_succ, List.getElem?_cons_zero]; rfl)
        focus kernel_rfl
        focus kernel_rfl
        focus kernel_rfl
        focus exact (fun _ _ _ h => h)
        refine Or.inr ⟨?_, rfl⟩
        focus (go_simp; done)
        focus assumption
        (try simp only [Act.put, List.setIfInBounds_toArray, List.set_cons_zero, List.set_cons_succ])
        refine' wpAnyH_take (i := 29) (v := undef) ?_ ?_ ?_ ?_ ?_ ?_ ?_ ?_
        rotate_left 1
        focus (simp only [List.getElem?_toArray, List.getElem?_cons_succ, List.getElem?_cons_zero]; rfl)
        focus kernel_rfl
        focus kernel_rfl
        focus kernel_rfl
        focus exact (fun _ _ _ h => h)
        refine Or.inr ⟨?_, rfl⟩
        focus (go_simp; done)
        focus assumption
        (try simp only [Act.put, List.setIfInBounds_toArray, List.set_cons_zero, List.set_cons_succ])
        refine' wpAnyH_take (i := 30) (v := undef) ?_ ?_ ?_ ?_ ?_ ?_ ?_ ?_
        rotate_left 1
        focus (simp only [List.getElem?_toArray, List.getElem?_cons_succ, List.getElem?_cons_zero]; rfl)
        focus kernel_rfl
        focus kernel_rfl
        focus kernel_rfl
        focus exact (fun _ _ _ h => h)
        refine Or.inr ⟨?_, rfl⟩
        focus (go_simp; done)
        focus assumption
        (try simp only [Act.put, List.setIfInBounds_toArray, List.set_cons_zero, List.set_cons_succ])
        refine' wpAnyH_take (i := 31) (v := undef) ?_ ?_ ?_ ?_ ?_ ?_ ?_ ?_
        rotate_left 1
        focus (simp only [List.getElem?_toArray, List.getElem?_cons_succ, List.getElem?_cons_zero]; rfl)
        focus kernel_rfl
        focus kernel_rfl
        focus kernel_rfl
        focus exact (fun _ _ _ h => h)
        refine Or.inr ⟨?_, rfl⟩
        focus (go_simp; done)
        focus assumption
        (try simp only [Act.put, List.setIfInBounds_toArray, List.set_cons_zero, List.set_cons_succ])
        refine' wpAnyH_take (i := 32) (v := undef) ?_ ?_ ?_ ?_ ?_ ?_ ?_ ?_
        rotate_left 1
        focus (simp only [List.getElem?_toArray, List.getElem?_cons_succ, List.getElem?_cons_zero]; rfl)
        focus kernel_rfl
        focus kernel_rfl
        focus kernel_rfl
        focus exact (fun _ _ _ h => h)
        refine Or.inr ⟨?_, rfl⟩
        focus (go_simp; done)
        focus assumption
        (try simp only [Act.put, List.setIfInBounds_toArray, List.set_cons_zero, List.set_cons_succ])
        refine' wpAnyH_take (i := 33) (v := undef) ?_ ?_ ?_ ?_ ?_ ?_ ?_ ?_
        rotate_left 1
        focus (simp only [List.getElem?_toArray, List.getElem?_cons_succ, List.getElem?_cons_zero]; rfl)
        focus kernel_rfl
        focus kernel_rfl
        focus kernel_rfl
        focus exact (fun _ _ _ h => h)
        refine Or.inr ⟨?_, rfl⟩
        focus (go_simp; done)
        focus assumption
        (try simp only [Act.put, List.setIfInBounds_toArray, List.set_cons_zero, List.set_cons_succ])
        refine' wpAnyH_take (i := 34) (v := undef) ?_ ?_ ?_ ?_ ?_ ?_ ?_ ?_
        rotate_left 1
        focus (simp only [List.getElem?_toArray, List.getElem?_cons_succ, List.getElem?_cons_zero]; rfl)
        focus kernel_rfl
        focus kernel_rfl
        focus kernel_rfl
        focus exact (fun _ _ _ h => h)
        refine Or.inr ⟨?_, rfl⟩
        focus (go_simp; done)
        focus assumption
        (try simp only [Act.put, List.setIfInBounds_toArray, List.set_cons_zero, List.set_cons_succ])
        refine' wpAnyH_take (i := 35) (v := undef) ?_ ?_ ?_ ?_ ?_ ?_ ?_ ?_
        rotate_left 1
        focus (simp only [List.getElem?_toArray, List.getElem?_cons_succ, List.getElem?_cons_zero]; rfl)
        focus kernel_rfl
        focus kernel_rfl
        focus kernel_rfl
        focus exact (fun _ _ _ h => h)
        refine Or.inr ⟨?_, rfl⟩
        focus (go_simp; done)
        focus assumption
        (try simp only [Act.put, List.setIfInBounds_toArray, List.set_cons_zero, List.set_cons_succ])
        refine' wpAnyH_take (i := 36) (v := undef) ?_ ?_ ?_ ?_ ?_ ?_ ?_ ?_
        rotate_left 1
        focus (simp only [List.getElem?_toArray, List.getElem?_cons_succ, List.getElem?_cons_zero]; rfl)
        focus kernel_rfl
        focus kernel_rfl
        focus kernel_rfl
        focus exact (fun _ _ _ h => h)
        refine Or.inr ⟨?_, rfl⟩
        focus (go_simp; done)
        focus assumption
        (try simp only [Act.put, List.setIfInBounds_toArray, List.set_cons_zero, List.set_cons_succ])
        refine' wpAnyH_take (i := 37) (v := _) ?_ ?_ ?_ ?_ ?_ ?_ ?_ ?_
        rotate_left 2
        focus (simp only [List.getElem?_toArray, List.getElem?_cons_succ, List.getElem?_cons_zero]; rfl)
        focus kernel_rfl
        focus kernel_rfl
        focus kernel_rfl
        focus exact (fun _ _ _ h => h)
        refine Or.inl ⟨?_, ?_⟩
        focus (go_simp; done)
        focus (intro w hSw; obtain ⟨g0, g1, g2, g3, g4, g5, g6, g7, o0, x0, x1, x2, x3, x4⟩ := HOpn.out _ hSw; (first | (go_simp; done) | (go_simp; with_reducible rfl)))
        focus assumption
        (try simp only [Act.put, List.setIfInBounds_toArray, List.set_cons_zero, List.set_cons_succ])
        refine wpAnyH_done (by kernel_rfl) ?_ _
        go_wp2
        go_ret
        exact ⟨ret_bool (HR.out.symm.trans HBad.out).symm, hHeld.1⟩
      · have H1 := Lib.hid h1
        clear h1
        by_cases h6 : kd = 6
        · subst h6
          by_cases hk0 : k = 0
          · have k0 : decide ((0 : Int) < (k : Int)) = false := by simp [hk0]
            have hkz : ¬ 0 < k := by omega
            have HX := Lib.hid (show Gr.opAt V na b.ops k = true by rw [HAt.out, show _ = _ from H1.out]; simp [hk0])
            clear hk0
            refine wp_region_held_drew (S := (fun u => GBx w w.heap.size (w.heap.size + 1) #[.slice Ai ni ci, .int .i64 V, .int .i64 K, .slice Aa na ca, .int .i64 S, .slice Ab nb cb, .slice Ap np cp, .slice Ah nh ch] #[.slice (some ⟨bbk, off, none⟩) no co, .int .i64 cd, .slice An nn cn] u)) (by kernel_rfl) (by exact HS.out.drew) (fun hHeld => ?_)
            refine' wpAnyH_take (i := 0) (v := _) ?_ ?_ ?_ ?_ ?_ ?_ ?_ ?_
            rotate_left 2
            focus (simp only [List.getElem?_toArray, List.getElem?_cons_succ, List.getElem?_cons_zero]; rfl)
            focus kernel_rfl
            focus kernel_rfl
            focus kernel_rfl
            focus exact (fun _ _ _ h => h)
            refine Or.inl ⟨?_, ?_⟩
            focus (go_simp; done)
            focus (intro w hSw; obtain ⟨g0, g1, g2, g3, g4, g5, g6, g7, o0, x0, x1, x2, x3, x4⟩ := HOpn.out _ hSw; (first | (go_simp; done) | (go_simp; with_reducible rfl)))
            focus assumption
            (try simp only [Act.put, List.setIfInBounds_toArray, List.set_cons_zero, List.set_cons_succ])
            refine' wpAnyH_take (i := 1) (v := _) ?_ ?_ ?_ ?_ ?_ ?_ ?_ ?_
            rotate_left 2
            focus (simp only [List.getElem?_toArray, List.getElem?_cons_succ, List.getElem?_cons_zero]; rfl)
            focus kernel_rfl
            focus kernel_rfl
            focus kernel_rfl
            focus exact (fun _ _ _ h => h)
            refine Or.inl ⟨?_, ?_⟩
            focus (go_simp; done)
            focus (intro w hSw; obtain ⟨g0, g1, g2, g3, g4, g5, g6, g7, o0, x0, x1, x2, x3, x4⟩ := HOpn.out _ hSw; (first | (go_simp; done) | (go_simp; with_reducible rfl)))
            focus assumption
            (try simp only [Act.put, List.setIfInBounds_toArray, List.set_cons_zero, List.set_cons_succ])
            refine' wpAnyH_take (i := 2) (v := _) ?_ ?_ ?_ ?_ ?_ ?_ ?_ ?_
            rotate_left 2
            focus (simp only [List.getElem?_toArray, List.getElem?_cons_succ, List.getElem?_cons_zero]; rfl)
            focus kernel_rfl
            focus kernel_rfl
            focus kernel_rfl
            focus exact (fun _ _ _ h => h)
            refine Or.inl ⟨?_, ?_⟩
            focus (go_simp; done)
            focus (intro w hSw; obtain ⟨g0, g1, g2, g3, g4, g5, g6, g7, o0, x0, x1, x2, x3, x4⟩ := HOpn.out _ hSw; (first | (go_simp; done) | (go_simp; with_reducible rfl)))
            focus assumption
            (try simp only [Act.put, List.setIfInBounds_toArray, List.set_cons_zero, List.set_cons_succ])
            refine' wpAnyH_take (i := 3) (v := _) ?_ ?_ ?_ ?_ ?_ ?_ ?_ ?_
            rotate_left 2
            focus (simp only [List.getElem?_toArray, List.getElem?_cons_succ, List.getElem?_cons_zero]; rfl)
            focus kernel_rfl
            focus kernel_rfl
            focus kernel_rfl
            focus exact (fun _ _ _ h => h)
            refine Or.inl ⟨?_, ?_⟩
            focus (go_simp; done)
            focus (intro w hSw; obtain ⟨g0, g1, g2, g3, g4, g5, g6, g7, o0, x0, x1, x2, x3, x4⟩ := HOpn.out _ hSw; (first | (go_simp; done) | (go_simp; with_reducible rfl)))
            focus assumption
            (try simp only [Act.put, List.setIfInBounds_toArray, List.set_cons_zero, List.set_cons_succ])
            refine' wpAnyH_take (i := 4) (v := _) ?_ ?_ ?_ ?_ ?_ ?_ ?_ ?_
            rotate_left 2
            focus (simp only [List.getElem?_toArray, List.getElem?_cons_succ, List.getElem?_cons_zero]; rfl)
            focus kernel_rfl
            focus kernel_rfl
            focus kernel_rfl
            focus exact (fun _ _ _ h => h)
            refine Or.inl ⟨?_, ?_⟩
            focus (go_simp; done)
            focus (intro w hSw; obtain ⟨g0, g1, g2, g3, g4, g5, g6, g7, o0, x0, x1, x2, x3, x4⟩ := HOpn.out _ hSw; (first | (go_simp; done) | (go_simp; with_reducible rfl)))
            focus assumption
            (try simp only [Act.put, List.setIfInBounds_toArray, List.set_cons_zero, List.set_cons_succ])
            refine' wpAnyH_take (i := 5) (v := _) ?_ ?_ ?_ ?_ ?_ ?_ ?_ ?_
            rotate_left 2
            focus (simp only [List.getElem?_toArray, List.getElem?_cons_succ, List.getElem?_cons_zero]; rfl)
            focus kernel_rfl
            focus kernel_rfl
            focus kernel_rfl
            focus exact (fun _ _ _ h => h)
            refine Or.inl ⟨?_, ?_⟩
            focus (go_simp; done)
            focus (intro w hSw; obtain ⟨g0, g1, g2, g3, g4, g5, g6, g7, o0, x0, x1, x2, x3, x4⟩ := HOpn.out _ hSw; (first | (go_simp; done) | (go_simp; with_reducible rfl)))
            focus assumption
            (try simp only [Act.put, List.setIfInBounds_toArray, List.set_cons_zero, List.set_cons_succ])
            refine wpAnyH_ready (rs := [6]) (by kernel_rfl) (by simp) ?_
            refine' AllReadyH.cons ?_ (fun K hK => ?_) AllReadyH.nil
            rotate_left
            focus (simp only [List.getElem?_toArray, List.getElem?_cons_succ, List.getElem?_cons_zero]; rfl)
            go_simp
            (go_at_call 92; refine (rp_any _ _ _ _ _ _ _ _ _ _ _ _ _ _ _ _ _ _ hna 6 d a bb i _ H1.out _).mono ?_; rintro e w4 ⟨rfl, hb⟩)
            refine hK.out _ _ (hHeld.below hb) (fun hHeld => ?_)
            clear hK K
            (try simp only [Act.put, List.setIfInBounds_toArray, List.set_cons_zero, List.set_cons_succ])
            clear hb
            refine' wpAnyH_take (i := 7) (v := _) ?_ ?_ ?_ ?_ ?_ ?_ ?_ ?_
            rotate_left 2
            focus (simp only [List.getElem?_toArray, List.getElem?_cons_succ, List.getElem?_cons_zero]; rfl)
            focus kernel_rfl
            focus kernel_rfl
            focus kernel_rfl
            focus exact (fun _ _ _ h => h)
            refine Or.inl ⟨?_, ?_⟩
            focus (go_simp; done)
            focus (intro w hSw; obtain ⟨g0, g1, g2, g3, g4, g5, g6, g7, o0, x0, x1, x2, x3, x4⟩ := HOpn.out _ hSw; (first | (go_simp; done) | (go_simp; with_reducible rfl)))
            focus assumption
            (try simp only [Act.put, List.setIfInBounds_toArray, List.set_cons_zero, List.set_cons_succ])
            refine' wpAnyH_take (i := 8) (v := _) ?_ ?_ ?_ ?_ ?_ ?_ ?_ ?_
            rotate_left 2
            focus (simp only [List.getElem?_toArray, List.getElem?_cons_succ, List.getElem?_cons_zero]; rfl)
            focus kernel_rfl
            focus kernel_rfl
            focus kernel_rfl
            focus exact (fun _ _ _ h => h)
            refine Or.inl ⟨?_, ?_⟩
            focus (go_simp; done)
            focus (intro w hSw; obtain ⟨g0, g1, g2, g3, g4, g5, g6, g7, o0, x0, x1, x2, x3, x4⟩ := HOpn.out _ hSw; (first | (go_simp; done) | (go_simp; with_reducible rfl)))
            focus assumption
            (try simp only [Act.put, List.setIfInBounds_toArray, List.set_cons_zero, List.set_cons_succ])
            refine' wpAnyH_take (i := 9) (v := _) ?_ ?_ ?_ ?_ ?_ ?_ ?_ ?_
            rotate_left 2
            focus (simp only [List.getElem?_toArray, List.getElem?_cons_succ, List.getElem?_cons_zero]; rfl)
            focus kernel_rfl
            focus kernel_rfl
            focus kernel_rfl
            focus exact (fun _ _ _ h => h)
            refine Or.inl ⟨?_, ?_⟩
            focus (go_simp; done)
            focus (intro w hSw; obtain ⟨g0, g1, g2, g3, g4, g5, g6, g7, o0, x0, x1, x2, x3, x4⟩ := HOpn.out _ hSw; (first | (go_simp; done) | (go_simp; with_reducible rfl)))
            focus assumption
            (try simp only [Act.put, List.setIfInBounds_toArray, List.set_cons_zero, List.set_cons_succ])
            refine' wpAnyH_take (i := 10) (v := _) ?_ ?_ ?_ ?_ ?_ ?_ ?_ ?_
            rotate_left 2
            focus (simp only [List.getElem?_toArray, List.getElem?_cons_succ, List.getElem?_cons_zero]; rfl)
            focus kernel_rfl
            focus kernel_rfl
            focus kernel_rfl
            focus exact (fun _ _ _ h => h)
            refine Or.inl ⟨?_, ?_⟩
            focus (go_simp; done)
            focus (intro w hSw; obtain ⟨g0, g1, g2, g3, g4, g5, g6, g7, o0, x0, x1, x2, x3, x4⟩ := HOpn.out _ hSw; (first | (go_simp; done) | (go_simp; with_reducible rfl)))
            focus assumption
            (try simp only [Act.put, List.setIfInBounds_toArray, List.set_cons_zero, List.set_cons_succ])
            refine' wpAnyH_take (i := 11) (v := _) ?_ ?_ ?_ ?_ ?_ ?_ ?_ ?_
            rotate_left 2
            focus (simp only [List.getElem?_toArray, List.getElem?_cons_succ, List.getElem?_cons_zero]; rfl)
            focus kernel_rfl
            focus kernel_rfl
            focus kernel_rfl
            focus exact (fun _ _ _ h => h)
            refine Or.inl ⟨?_, ?_⟩
            focus (go_simp; done)
            focus (intro w hSw; obtain ⟨g0, g1, g2, g3, g4, g5, g6, g7, o0, x0, x1, x2, x3, x4⟩ := HOpn.out _ hSw; (first | (go_simp; done) | (go_simp; with_reducible rfl)))
            focus assumption
            (try simp only [Act.put, List.setIfInBounds_toArray, List.set_cons_zero, List.set_cons_succ])
            refine' wpAnyH_take (i := 12) (v := _) ?_ ?_ ?_ ?_ ?_ ?_ ?_ ?_
            rotate_left 2
            focus (simp only [List.getElem?_toArray, List.getElem?_cons_succ, List.getElem?_cons_zero]; rfl)
            focus kernel_rfl
            focus kernel_rfl
            focus kernel_rfl
            focus exact (fun _ _ _ h => h)
            refine Or.inl ⟨?_, ?_⟩
            focus (go_simp; done)
            focus (intro w hSw; obtain ⟨g0, g1, g2, g3, g4, g5, g6, g7, o0, x0, x1, x2, x3, x4⟩ := HOpn.out _ hSw; (first | (go_simp; done) | (go_simp; with_reducible rfl)))
            focus assumption
            (try simp only [Act.put, List.setIfInBounds_toArray, List.set_cons_zero, List.set_cons_succ])
            refine' wpAnyH_take (i := 13) (v := _) ?_ ?_ ?_ ?_ ?_ ?_ ?_ ?_
            rotate_left 2
            focus (simp only [List.getElem?_toArray, List.getElem?_cons_succ, List.getElem?_cons_zero]; rfl)
            focus kernel_rfl
            focus kernel_rfl
            focus kernel_rfl
            focus exact (fun _ _ _ h => h)
            refine Or.inl ⟨?_, ?_⟩
            focus (go_simp; done)
            focus (intro w hSw; obtain ⟨g0, g1, g2, g3, g4, g5, g6, g7, o0, x0, x1, x2, x3, x4⟩ := HOpn.out _ hSw; (first | (go_simp; done) | (go_simp; with_reducible rfl)))
            focus assumption
            (try simp only [Act.put, List.setIfInBounds_toArray, List.set_cons_zero, List.set_cons_succ])
            refine' wpAnyH_take (i := 14) (v := _) ?_ ?_ ?_ ?_ ?_ ?_ ?_ ?_
            rotate_left 2
            focus (simp only [List.getElem?_toArray, List.getElem?_cons_succ, List.getElem?_cons_zero]; rfl)
            focus kernel_rfl
            focus kernel_rfl
            focus kernel_rfl
            focus exact (fun _ _ _ h => h)
            refine Or.inl ⟨?_, ?_⟩
            focus (go_simp; done)
            focus (intro w hSw; obtain ⟨g0, g1, g2, g3, g4, g5, g6, g7, o0, x0, x1, x2, x3, x4⟩ := HOpn.out _ hSw; (first | (go_simp; done) | (go_simp; with_reducible rfl)))
            focus assumption
            (try simp only [Act.put, List.setIfInBounds_toArray, List.set_cons_zero, List.set_cons_succ])
            refine' wpAnyH_take (i := 15) (v := _) ?_ ?_ ?_ ?_ ?_ ?_ ?_ ?_
            rotate_left 2
            focus (simp only [List.getElem?_toArray, List.getElem?_cons_succ, List.getElem?_cons_zero]; rfl)
            focus kernel_rfl
            focus kernel_rfl
            focus kernel_rfl
            focus exact (fun _ _ _ h => h)
            refine Or.inl ⟨?_, ?_⟩
            focus (go_simp; done)
            focus (intro w hSw; obtain ⟨g0, g1, g2, g3, g4, g5, g6, g7, o0, x0, x1, x2, x3, x4⟩ := HOpn.out _ hSw; (first | (go_simp; done) | (go_simp; with_reducible rfl)))
            focus assumption
            (try simp only [Act.put, List.setIfInBounds_toArray, List.set_cons_zero, List.set_cons_succ])
            refine' wpAnyH_take (i := 16) (v := _) ?_ ?_ ?_ ?_ ?_ ?_ ?_ ?_
            rotate_left 2
            focus (simp only [List.getElem?_toArray, List.getElem?_cons_succ, List.getElem?_cons_zero]; rfl)
            focus kernel_rfl
            focus kernel_rfl
            focus kernel_rfl
            focus exact (fun _ _ _ h => h)
            refine Or.inl ⟨?_, ?_⟩
            focus (go_simp; done)
            focus (intro w hSw; obtain ⟨g0, g1, g2, g3, g4, g5, g6, g7, o0, x0, x1, x2, x3, x4⟩ := HOpn.out _ hSw; (first | (go_simp; done) | (go_simp; with_reducible rfl)))
            focus assumption
            (try simp only [Act.put, List.setIfInBounds_toArray, List.set_cons_zero, List.set_cons_succ])
            refine' wpAnyH_take (i := 17) (v := _) ?_ ?_ ?_ ?_ ?_ ?_ ?_ ?_
            rotate_left 2
            focus (simp only [List.getElem?_toArray, List.getElem?_cons_succ, List.getElem?_cons_zero]; rfl)
            focus kernel_rfl
            focus kernel_rfl
            focus kernel_rfl
            focus exact (fun _ _ _ h => h)
            refine Or.inl ⟨?_, ?_⟩
            focus (go_simp; done)
            focus (intro w hSw; obtain ⟨g0, g1, g2, g3, g4, g5, g6, g7, o0, x0, x1, x2, x3, x4⟩ := HOpn.out _ hSw; (first | (go_simp; done) | (go_simp; with_reducible rfl)))
            focus assumption
            (try simp only [Act.put, List.setIfInBounds_toArray, List.set_cons_zero, List.set_cons_succ])
            refine' wpAnyH_take (i := 18) (v := _) ?_ ?_ ?_ ?_ ?_ ?_ ?_ ?_
            rotate_left 2
            focus (simp only [List.getElem?_toArray, List.getElem?_cons_succ, List.getElem?_cons_zero]; rfl)
            focus kernel_rfl
            focus kernel_rfl
            focus kernel_rfl
            focus exact (fun _ _ _ h => h)
            refine Or.inl ⟨?_, ?_⟩
            focus (go_simp; done)
            focus (intro w hSw; obtain ⟨g0, g1, g2, g3, g4, g5, g6, g7, o0, x0, x1, x2, x3, x4⟩ := HOpn.out _ hSw; (first | (go_simp; done) | (go_simp; with_reducible rfl)))
            focus assumption
            (try simp only [Act.put, List.setIfInBounds_toArray, List.set_cons_zero, List.set_cons_succ])
            refine' wpAnyH_take (i := 19) (v := _) ?_ ?_ ?_ ?_ ?_ ?_ ?_ ?_
            rotate_left 2
            focus (simp only [List.getElem?_toArray, List.getElem?_cons_succ, List.getElem?_cons_zero]; rfl)
            focus kernel_rfl
            focus kernel_rfl
            focus kernel_rfl
            focus exact (fun _ _ _ h => h)
            refine Or.inl ⟨?_, ?_⟩
            focus (go_simp; done)
            focus (intro w hSw; obtain ⟨g0, g1, g2, g3, g4, g5, g6, g7, o0, x0, x1, x2, x3, x4⟩ := HOpn.out _ hSw; (first | (go_simp; done) | (go_simp; with_reducible rfl)))
            focus assumption
            (try simp only [Act.put, List.setIfInBounds_toArray, List.set_cons_zero, List.set_cons_succ])
            refine' wpAnyH_take (i := 20) (v := _) ?_ ?_ ?_ ?_ ?_ ?_ ?_ ?_
            rotate_left 2
            focus (simp only [List.getElem?_toArray, List.getElem?_cons_succ, List.getElem?_cons_zero]; rfl)
            focus kernel_rfl
            focus kernel_rfl
            focus kernel_rfl
            focus exact (fun _ _ _ h => h)
            refine Or.inl ⟨?_, ?_⟩
            focus (go_simp; done)
            focus (intro w hSw; obtain ⟨g0, g1, g2, g3, g4, g5, g6, g7, o0, x0, x1, x2, x3, x4⟩ := HOpn.out _ hSw; (first | (go_simp; done) | (go_simp; with_reducible rfl)))
            focus assumption
            (try simp only [Act.put, List.setIfInBounds_toArray, List.set_cons_zero, List.set_cons_succ])
            refine' wpAnyH_take (i := 21) (v := _) ?_ ?_ ?_ ?_ ?_ ?_ ?_ ?_
            rotate_left 2
            focus (simp only [List.getElem?_toArray, List.getElem?_cons_succ, List.getElem?_cons_zero]; rfl)
            focus kernel_rfl
            focus kernel_rfl
            focus kernel_rfl
            focus exact (fun _ _ _ h => h)
            refine Or.inl ⟨?_, ?_⟩
            focus (go_simp; done)
            focus (intro w hSw; obtain ⟨g0, g1, g2, g3, g4, g5, g6, g7, o0, x0, x1, x2, x3, x4⟩ := HOpn.out _ hSw; (first | (go_simp; done) | (go_simp; with_reducible rfl)))
            focus assumption
            (try simp only [Act.put, List.setIfInBounds_toArray, List.set_cons_zero, List.set_cons_succ])
            refine' wpAnyH_take (i := 22) (v := _) ?_ ?_ ?_ ?_ ?_ ?_ ?_ ?_
            rotate_left 2
            focus (simp only [List.getElem?_toArray, List.getElem?_cons_succ, List.getElem?_cons_zero]; rfl)
            focus kernel_rfl
            focus kernel_rfl
            focus kernel_rfl
            focus exact (fun _ _ _ h => h)
            refine Or.inl ⟨?_, ?_⟩
            focus (go_simp; done)
            focus (intro w hSw; obtain ⟨g0, g1, g2, g3, g4, g5, g6, g7, o0, x0, x1, x2, x3, x4⟩ := HOpn.out _ hSw; (first | (go_simp; done) | (go_simp; with_reducible rfl)))
            focus assumption
            (try simp only [Act.put, List.setIfInBounds_toArray, List.set_cons_zero, List.set_cons_succ])
            refine' wpAnyH_take (i := 23) (v := _) ?_ ?_ ?_ ?_ ?_ ?_ ?_ ?_
            rotate_left 2
            focus (simp only [List.getElem?_toArray, List.getElem?_cons_succ, List.getElem?_cons_zero]; rfl)
            focus kernel_rfl
            focus kernel_rfl
            focus kernel_rfl
            focus exact (fun _ _ _ h => h)
            refine Or.inl ⟨?_, ?_⟩
            focus (go_simp; done)
            focus (intro w hSw; obtain ⟨g0, g1, g2, g3, g4, g5, g6, g7, o0, x0, x1, x2, x3, x4⟩ := HOpn.out _ hSw; (first | (go_simp; done) | (go_simp; with_reducible rfl)))
            focus assumption
            (try simp only [Act.put, List.setIfInBounds_toArray, List.set_cons_zero, List.set_cons_succ])
            refine' wpAnyH_take (i := 24) (v := _) ?_ ?_ ?_ ?_ ?_ ?_ ?_ ?_
            rotate_left 2
            focus (simp only [List.getElem?_toArray, List.getElem?_cons_succ, List.getElem?_cons_zero]; rfl)
            focus kernel_rfl
            focus kernel_rfl
            focus kernel_rfl
            focus exact (fun _ _ _ h => h)
            refine Or.inl ⟨?_, ?_⟩
            focus (go_simp; done)
            focus (intro w hSw; obtain ⟨g0, g1, g2, g3, g4, g5, g6, g7, o0, x0, x1, x2, x3, x4⟩ := HOpn.out _ hSw; (first | (go_simp; done) | (go_simp; with_reducible rfl)))
            focus assumption
            (try simp only [Act.put, List.setIfInBounds_toArray, List.set_cons_zero, List.set_cons_succ])
            refine' wpAnyH_take (i := 25) (v := _) ?_ ?_ ?_ ?_ ?_ ?_ ?_ ?_
            rotate_left 2
            focus (simp only [List.getElem?_toArray, List.getElem?_cons_succ, List.getElem?_cons_zero]; rfl)
            focus kernel_rfl
            focus kernel_rfl
            focus kernel_rfl
            focus exact (fun _ _ _ h => h)
            refine Or.inl ⟨?_, ?_⟩
            focus (go_simp; done)
            focus (intro w hSw; obtain ⟨g0, g1, g2, g3, g4, g5, g6, g7, o0, x0, x1, x2, x3, x4⟩ := HOpn.out _ hSw; (first | (go_simp; done) | (go_simp; with_reducible rfl)))
            focus assumption
            (try simp only [Act.put, List.setIfInBounds_toArray, List.set_cons_zero, List.set_cons_succ])
            refine' wpAnyH_take (i := 26) (v := _) ?_ ?_ ?_ ?_ ?_ ?_ ?_ ?_
            rotate_left 2
            focus (simp only [List.getElem?_toArray, List.getElem?_cons_succ, List.getElem?_cons_zero]; rfl)
            focus kernel_rfl
            focus kernel_rfl
            focus kernel_rfl
            focus exact (fun _ _ _ h => h)
            refine Or.inl ⟨?_, ?_⟩
            focus (go_simp; done)
            focus (intro w hSw; obtain ⟨g0, g1, g2, g3, g4, g5, g6, g7, o0, x0, x1, x2, x3, x4⟩ := HOpn.out _ hSw; (first | (go_simp; done) | (go_simp; with_reducible rfl)))
            focus assumption
            (try simp only [Act.put, List.setIfInBounds_toArray, List.set_cons_zero, List.set_cons_succ])
            refine' wpAnyH_take (i := 27) (v := _) ?_ ?_ ?_ ?_ ?_ ?_ ?_ ?_
            rotate_left 2
            focus (simp only [List.getElem?_toArray, List.getElem?_cons_succ, List.getElem?_cons_zero]; rfl)
            focus kernel_rfl
            focus kernel_rfl
            focus kernel_rfl
            focus exact (fun _ _ _ h => h)
            refine Or.inl ⟨?_, ?_⟩
            focus (go_simp; done)
            focus (intro w hSw; obtain ⟨g0, g1, g2, g3, g4, g5, g6, g7, o0, x0, x1, x2, x3, x4⟩ := HOpn.out _ hSw; (first | (go_simp; done) | (go_simp; with_reducible rfl)))
            focus assumption
            (try simp only [Act.put, List.setIfInBounds_toArray, List.set_cons_zero, List.set_cons_succ])
            refine' wpAnyH_take (i := 28) (v := _) ?_ ?_ ?_ ?_ ?_ ?_ ?_ ?_
            rotate_left 2
            focus (simp only [List.getElem?_toArray, List.getElem?_cons_succ, List.getElem?_cons_zero]; rfl)
            focus kernel_rfl
            focus kernel_rfl
            focus kernel_rfl
            focus exact (fun _ _ _ h => h)
            refine Or.inl ⟨?_, ?_⟩
            focus (go_simp; done)
            focus (intro w hSw; obtain ⟨g0, g1, g2, g3, g4, g5, g6, g7, o0, x0, x1, x2, x3, x4⟩ := HOpn.out _ hSw; (first | (go_simp; done) | (go_simp; with_reducible rfl)))
            focus assumption
            (try simp only [Act.put, List.setIfInBounds_toArray, List.set_cons_zero, List.set_cons_succ])
            refine' wpAnyH_take (i := 29) (v := _) ?_ ?_ ?_ ?_ ?_ ?_ ?_ ?_
            rotate_left 2
            focus (simp only [List.getElem?_toArray, List.getElem?_cons_succ, List.getElem?_cons_zero]; rfl)
            focus kernel_rfl
            focus kernel_rfl
            focus kernel_rfl
            focus exact (fun _ _ _ h => h)
            refine Or.inl ⟨?_, ?_⟩
            focus (go_simp; done)
            focus (intro w hSw; obtain ⟨g0, g1, g2, g3, g4, g5, g6, g7, o0, x0, x1, x2, x3, x4⟩ := HOpn.out _ hSw; (first | (go_simp; done) | (go_simp; with_reducible rfl)))
            focus assumption
            (try simp only [Act.put, List.setIfInBounds_toArray, List.set_cons_zero, List.set_cons_succ])
            refine' wpAnyH_take (i := 30) (v := undef) ?_ ?_ ?_ ?_ ?_ ?_ ?_ ?_
            rotate_left 1
            focus (simp only [List.getElem?_toArray, List.getElem?_cons_succ, List.getElem?_cons_zero]; rfl)
            focus kernel_rfl
            focus kernel_rfl
            focus kernel_rfl
            focus exact (fun _ _ _ h => h)
            refine Or.inr ⟨?_, rfl⟩
            focus (go_simp; done)
            focus assumption
            (try simp only [Act.put, List.setIfInBounds_toArray, List.set_cons_zero, List.set_cons_succ])
            refine' wpAnyH_take (i := 31) (v := undef) ?_ ?_ ?_ ?_ ?_ ?_ ?_ ?_
            rotate_left 1
            focus (simp only [List.getElem?_toArray, List.getElem?_cons_succ, List.getElem?_cons_zero]; rfl)
            focus kernel_rfl
            focus kernel_rfl
            focus kernel_rfl
            focus exact (fun _ _ _ h => h)
            refine Or.inr ⟨?_, rfl⟩
            focus (go_simp; done)
            focus assumption
            (try simp only [Act.put, List.setIfInBounds_toArray, List.set_cons_zero, List.set_cons_succ])
            refine' wpAnyH_take (i := 32) (v := undef) ?_ ?_ ?_ ?_ ?_ ?_ ?_ ?_
            rotate_left 1
            focus (simp only [List.getElem?_toArray, List.getElem?_cons_succ, List.getElem?_cons_zero]; rfl)
            focus kernel_rfl
            focus kernel_rfl
            focus kernel_rfl
            focus exact (fun _ _ _ h => h)
            refine Or.inr ⟨?_, rfl⟩
            focus (go_simp; done)
            focus assumption
            (try simp only [Act.put, List.setIfInBounds_toArray, List.set_cons_zero, List.set_cons_succ])
            refine' wpAnyH_take (i := 33) (v := undef) ?_ ?_ ?_ ?_ ?_ ?_ ?_ ?_
            rotate_left 1
            focus (simp only [List.getElem?_toArray, List.getElem?_cons_succ, List.getElem?_cons_zero]; rfl)
            focus kernel_rfl
            focus kernel_rfl
            focus kernel_rfl
            focus exact (fun _ _ _ h => h)
            refine Or.inr ⟨?_, rfl⟩
            focus (go_simp; done)
            focus assumption
            (try simp only [Act.put, List.setIfInBounds_toArray, List.set_cons_zero, List.set_cons_succ])
            refine' wpAnyH_take (i := 34) (v := undef) ?_ ?_ ?_ ?_ ?_ ?_ ?_ ?_
            rotate_left 1
            focus (simp only [List.getElem?_toArray, List.getElem?_cons_succ, List.getElem?_cons_zero]; rfl)
            focus kernel_rfl
            focus kernel_rfl
            focus kernel_rfl
            focus exact (fun _ _ _ h => h)
            refine Or.inr ⟨?_, rfl⟩
            focus (go_simp; done)
            focus assumption
            (try simp only [Act.put, List.setIfInBounds_toArray, List.set_cons_zero, List.set_cons_succ])
            refine' wpAnyH_take (i := 35) (v := undef) ?_ ?_ ?_ ?_ ?_ ?_ ?_ ?_
            rotate_left 1
            focus (simp only [List.getElem?_toArray, List.getElem?_cons_succ, List.getElem?_cons_zero]; rfl)
            focus kernel_rfl
            focus kernel_rfl
            focus kernel_rfl
            focus exact (fun _ _ _ h => h)
            refine Or.inr ⟨?_, rfl⟩
            focus (go_simp; done)
            focus assumption
            (try simp only [Act.put, List.setIfInBounds_toArray, List.set_cons_zero, List.set_cons_succ])
            refine' wpAnyH_take (i := 36) (v := _) ?_ ?_ ?_ ?_ ?_ ?_ ?_ ?_
            rotate_left 2
            focus (simp only [List.getElem?_toArray, List.getElem?_cons_succ, List.getElem?_cons_zero]; rfl)
            focus kernel_rfl
            focus kernel_rfl
            focus kernel_rfl
            focus exact (fun _ _ _ h => h)
            refine Or.inl ⟨?_, ?_⟩
            focus (go_simp; done)
            focus (intro w hSw; obtain ⟨g0, g1, g2, g3, g4, g5, g6, g7, o0, x0, x1, x2, x3, x4⟩ := HOpn.out _ hSw; (first | (go_simp; done) | (go_simp; with_reducible rfl)))
            focus assumption
            (try simp only [Act.put, List.setIfInBounds_toArray, List.set_cons_zero, List.set_cons_succ])
            refine' wpAnyH_take (i := 37) (v := _) ?_ ?_ ?_ ?_ ?_ ?_ ?_ ?_
            rotate_left 2
            focus (simp only [List.getElem?_toArray, List.getElem?_cons_succ, List.getElem?_cons_zero]; rfl)
            focus kernel_rfl
            focus kernel_rfl
            focus kernel_rfl
            focus exact (fun _ _ _ h => h)
            refine Or.inl ⟨?_, ?_⟩
            focus (go_simp; done)
            focus (intro w hSw; obtain ⟨g0, g1, g2, g3, g4, g5, g6, g7, o0, x0, x1, x2, x3, x4⟩ := HOpn.out _ hSw; (first | (go_simp; done) | (go_simp; with_reducible rfl)))
            focus assumption
            (try simp only [Act.put, List.setIfInBounds_toArray, List.set_cons_zero, List.set_cons_succ])
            refine wpAnyH_done (by kernel_rfl) ?_ _
            go_wp2
            go_roundw
            case rel => exact ⟨k + 1, by omega, by first | rfl | go_num, Lib.hid hHeld, Lib.hid fun j hj => by rcases Nat.lt_succ_iff_lt_or_eq.1 hj with h | rfl; exact HF.out j h; exact HX.out⟩
            case measure => simp [intOf]; omega
          · have k0 : decide ((0 : Int) < (k : Int)) = true := by simp; omega
            have hkz : 0 < k := by omega
            have HBad := Lib.hid (show Gr.blkOk V na nb b = false by rw [blkOk_ops (all_false (by rw [HNo.out]; exact hlt) (HAt.out.trans (by simp [hk0])))])
            clear hk0
            refine wp_region_held_drew (S := (fun u => GBx w w.heap.size (w.heap.size + 1) #[.slice Ai ni ci, .int .i64 V, .int .i64 K, .slice Aa na ca, .int .i64 S, .slice Ab nb cb, .slice Ap np cp, .slice Ah nh ch] #[.slice (some ⟨bbk, off, none⟩) no co, .int .i64 cd, .slice An nn cn] u)) (by kernel_rfl) (by exact HS.out.drew) (fun hHeld => ?_)
            refine' wpAnyH_take (i := 0) (v := _) ?_ ?_ ?_ ?_ ?_ ?_ ?_ ?_
            rotate_left 2
            focus (simp only [List.getElem?_toArray, List.getElem?_cons_succ, List.getElem?_cons_zero]; rfl)
            focus kernel_rfl
            focus kernel_rfl
            focus kernel_rfl
            focus exact (fun _ _ _ h => h)
            refine Or.inl ⟨?_, ?_⟩
            focus (go_simp; done)
            focus (intro w hSw; obtain ⟨g0, g1, g2, g3, g4, g5, g6, g7, o0, x0, x1, x2, x3, x4⟩ := HOpn.out _ hSw; (first | (go_simp; done) | (go_simp; with_reducible rfl)))
            focus assumption
            (try simp only [Act.put, List.setIfInBounds_toArray, List.set_cons_zero, List.set_cons_succ])
            refine' wpAnyH_take (i := 1) (v := _) ?_ ?_ ?_ ?_ ?_ ?_ ?_ ?_
            rotate_left 2
            focus (simp only [List.getElem?_toArray, List.getElem?_cons_succ, List.getElem?_cons_zero]; rfl)
            focus kernel_rfl
            focus kernel_rfl
            focus kernel_rfl
            focus exact (fun _ _ _ h => h)
            refine Or.inl ⟨?_, ?_⟩
            focus (go_simp; done)
            focus (intro w hSw; obtain ⟨g0, g1, g2, g3, g4, g5, g6, g7, o0, x0, x1, x2, x3, x4⟩ := HOpn.out _ hSw; (first | (go_simp; done) | (go_simp; with_reducible rfl)))
            focus assumption
            (try simp only [Act.put, List.setIfInBounds_toArray, List.set_cons_zero, List.set_cons_succ])
            refine' wpAnyH_take (i := 2) (v := _) ?_ ?_ ?_ ?_ ?_ ?_ ?_ ?_
            rotate_left 2
            focus (simp only [List.getElem?_toArray, List.getElem?_cons_succ, List.getElem?_cons_zero]; rfl)
            focus kernel_rfl
            focus kernel_rfl
            focus kernel_rfl
            focus exact (fun _ _ _ h => h)
            refine Or.inl ⟨?_, ?_⟩
            focus (go_simp; done)
            focus (intro w hSw; obtain ⟨g0, g1, g2, g3, g4, g5, g6, g7, o0, x0, x1, x2, x3, x4⟩ := HOpn.out _ hSw; (first | (go_simp; done) | (go_simp; with_reducible rfl)))
            focus assumption
            (try simp only [Act.put, List.setIfInBounds_toArray, List.set_cons_zero, List.set_cons_succ])
            refine' wpAnyH_take (i := 3) (v := _) ?_ ?_ ?_ ?_ ?_ ?_ ?_ ?_
            rotate_left 2
            focus (simp only [List.getElem?_toArray, List.getElem?_cons_succ, List.getElem?_cons_zero]; rfl)
            focus kernel_rfl
            focus kernel_rfl
            focus kernel_rfl
            focus exact (fun _ _ _ h => h)
            refine Or.inl ⟨?_, ?_⟩
            focus (go_simp; done)
            focus (intro w hSw; obtain ⟨g0, g1, g2, g3, g4, g5, g6, g7, o0, x0, x1, x2, x3, x4⟩ := HOpn.out _ hSw; (first | (go_simp; done) | (go_simp; with_reducible rfl)))
            focus assumption
            (try simp only [Act.put, List.setIfInBounds_toArray, List.set_cons_zero, List.set_cons_succ])
            refine' wpAnyH_take (i := 4) (v := _) ?_ ?_ ?_ ?_ ?_ ?_ ?_ ?_
            rotate_left 2
            focus (simp only [List.getElem?_toArray, List.getElem?_cons_succ, List.getElem?_cons_zero]; rfl)
            focus kernel_rfl
            focus kernel_rfl
            focus kernel_rfl
            focus exact (fun _ _ _ h => h)
            refine Or.inl ⟨?_, ?_⟩
            focus (go_simp; done)
            focus (intro w hSw; obtain ⟨g0, g1, g2, g3, g4, g5, g6, g7, o0, x0, x1, x2, x3, x4⟩ := HOpn.out _ hSw; (first | (go_simp; done) | (go_simp; with_reducible rfl)))
            focus assumption
            (try simp only [Act.put, List.setIfInBounds_toArray, List.set_cons_zero, List.set_cons_succ])
            refine' wpAnyH_take (i := 5) (v := _) ?_ ?_ ?_ ?_ ?_ ?_ ?_ ?_
            rotate_left 2
            focus (simp only [List.getElem?_toArray, List.getElem?_cons_succ, List.getElem?_cons_zero]; rfl)
            focus kernel_rfl
            focus kernel_rfl
            focus kernel_rfl
            focus exact (fun _ _ _ h => h)
            refine Or.inl ⟨?_, ?_⟩
            focus (go_simp; done)
            focus (intro w hSw; obtain ⟨g0, g1, g2, g3, g4, g5, g6, g7, o0, x0, x1, x2, x3, x4⟩ := HOpn.out _ hSw; (first | (go_simp; done) | (go_simp; with_reducible rfl)))
            focus assumption
            (try simp only [Act.put, List.setIfInBounds_toArray, List.set_cons_zero, List.set_cons_succ])
            refine wpAnyH_ready (rs := [6]) (by kernel_rfl) (by simp) ?_
            refine' AllReadyH.cons ?_ (fun K hK => ?_) AllReadyH.nil
            rotate_left
            focus (simp only [List.getElem?_toArray, List.getElem?_cons_succ, List.getElem?_cons_zero]; rfl)
            go_simp
            (go_at_call 92; refine (rp_any _ _ _ _ _ _ _ _ _ _ _ _ _ _ _ _ _ _ hna 6 d a bb i _ H1.out _).mono ?_; rintro e w4 ⟨rfl, hb⟩)
            refine hK.out _ _ (hHeld.below hb) (fun hHeld => ?_)
            clear hK K
            (try simp only [Act.put, List.setIfInBounds_toArray, List.set_cons_zero, List.set_cons_succ])
            clear hb
            refine' wpAnyH_take (i := 7) (v := _) ?_ ?_ ?_ ?_ ?_ ?_ ?_ ?_
            rotate_left 2
            focus (simp only [List.getElem?_toArray, List.getElem?_cons_succ, List.getElem?_cons_zero]; rfl)
            focus kernel_rfl
            focus kernel_rfl
            focus kernel_rfl
            focus exact (fun _ _ _ h => h)
            refine Or.inl ⟨?_, ?_⟩
            focus (go_simp; done)
            focus (intro w hSw; obtain ⟨g0, g1, g2, g3, g4, g5, g6, g7, o0, x0, x1, x2, x3, x4⟩ := HOpn.out _ hSw; (first | (go_simp; done) | (go_simp; with_reducible rfl)))
            focus assumption
            (try simp only [Act.put, List.setIfInBounds_toArray, List.set_cons_zero, List.set_cons_succ])
            refine' wpAnyH_take (i := 8) (v := _) ?_ ?_ ?_ ?_ ?_ ?_ ?_ ?_
            rotate_left 2
            focus (simp only [List.getElem?_toArray, List.getElem?_cons_succ, List.getElem?_cons_zero]; rfl)
            focus kernel_rfl
            focus kernel_rfl
            focus kernel_rfl
            focus exact (fun _ _ _ h => h)
            refine Or.inl ⟨?_, ?_⟩
            focus (go_simp; done)
            focus (intro w hSw; obtain ⟨g0, g1, g2, g3, g4, g5, g6, g7, o0, x0, x1, x2, x3, x4⟩ := HOpn.out _ hSw; (first | (go_simp; done) | (go_simp; with_reducible rfl)))
            focus assumption
            (try simp only [Act.put, List.setIfInBounds_toArray, List.set_cons_zero, List.set_cons_succ])
            refine' wpAnyH_take (i := 9) (v := _) ?_ ?_ ?_ ?_ ?_ ?_ ?_ ?_
            rotate_left 2
            focus (simp only [List.getElem?_toArray, List.getElem?_cons_succ, List.getElem?_cons_zero]; rfl)
            focus kernel_rfl
            focus kernel_rfl
            focus kernel_rfl
            focus exact (fun _ _ _ h => h)
            refine Or.inl ⟨?_, ?_⟩
            focus (go_simp; done)
            focus (intro w hSw; obtain ⟨g0, g1, g2, g3, g4, g5, g6, g7, o0, x0, x1, x2, x3, x4⟩ := HOpn.out _ hSw; (first | (go_simp; done) | (go_simp; with_reducible rfl)))
            focus assumption
            (try simp only [Act.put, List.setIfInBounds_toArray, List.set_cons_zero, List.set_cons_succ])
            refine' wpAnyH_take (i := 10) (v := _) ?_ ?_ ?_ ?_ ?_ ?_ ?_ ?_
            rotate_left 2
            focus (simp only [List.getElem?_toArray, List.getElem?_cons_succ, List.getElem?_cons_zero]; rfl)
            focus kernel_rfl
            focus kernel_rfl
            focus kernel_rfl
            focus exact (fun _ _ _ h => h)
            refine Or.inl ⟨?_, ?_⟩
            focus (go_simp; done)
            focus (intro w hSw; obtain ⟨g0, g1, g2, g3, g4, g5, g6, g7, o0, x0, x1, x2, x3, x4⟩ := HOpn.out _ hSw; (first | (go_simp; done) | (go_simp; with_reducible rfl)))
            focus assumption
            (try simp only [Act.put, List.setIfInBounds_toArray, List.set_cons_zero, List.set_cons_succ])
            refine' wpAnyH_take (i := 11) (v := _) ?_ ?_ ?_ ?_ ?_ ?_ ?_ ?_
            rotate_left 2
            focus (simp only [List.getElem?_toArray, List.getElem?_cons_succ, List.getElem?_cons_zero]; rfl)
            focus kernel_rfl
            focus kernel_rfl
            focus kernel_rfl
            focus exact (fun _ _ _ h => h)
            refine Or.inl ⟨?_, ?_⟩
            focus (go_simp; done)
            focus (intro w hSw; obtain ⟨g0, g1, g2, g3, g4, g5, g6, g7, o0, x0, x1, x2, x3, x4⟩ := HOpn.out _ hSw; (first | (go_simp; done) | (go_simp; with_reducible rfl)))
            focus assumption
            (try simp only [Act.put, List.setIfInBounds_toArray, List.set_cons_zero, List.set_cons_succ])
            refine' wpAnyH_take (i := 12) (v := _) ?_ ?_ ?_ ?_ ?_ ?_ ?_ ?_
            rotate_left 2
            focus (simp only [List.getElem?_toArray, List.getElem?_cons_succ, List.getElem?_cons_zero]; rfl)
            focus kernel_rfl
            focus kernel_rfl
            focus kernel_rfl
            focus exact (fun _ _ _ h => h)
            refine Or.inl ⟨?_, ?_⟩
            focus (go_simp; done)
            focus (intro w hSw; obtain ⟨g0, g1, g2, g3, g4, g5, g6, g7, o0, x0, x1, x2, x3, x4⟩ := HOpn.out _ hSw; (first | (go_simp; done) | (go_simp; with_reducible rfl)))
            focus assumption
            (try simp only [Act.put, List.setIfInBounds_toArray, List.set_cons_zero, List.set_cons_succ])
            refine' wpAnyH_take (i := 13) (v := _) ?_ ?_ ?_ ?_ ?_ ?_ ?_ ?_
            rotate_left 2
            focus (simp only [List.getElem?_toArray, List.getElem?_cons_succ, List.getElem?_cons_zero]; rfl)
            focus kernel_rfl
            focus kernel_rfl
            focus kernel_rfl
            focus exact (fun _ _ _ h => h)
            refine Or.inl ⟨?_, ?_⟩
            focus (go_simp; done)
            focus (intro w hSw; obtain ⟨g0, g1, g2, g3, g4, g5, g6, g7, o0, x0, x1, x2, x3, x4⟩ := HOpn.out _ hSw; (first | (go_simp; done) | (go_simp; with_reducible rfl)))
            focus assumption
            (try simp only [Act.put, List.setIfInBounds_toArray, List.set_cons_zero, List.set_cons_succ])
            refine' wpAnyH_take (i := 14) (v := _) ?_ ?_ ?_ ?_ ?_ ?_ ?_ ?_
            rotate_left 2
            focus (simp only [List.getElem?_toArray, List.getElem?_cons_succ, List.getElem?_cons_zero]; rfl)
            focus kernel_rfl
            focus kernel_rfl
            focus kernel_rfl
            focus exact (fun _ _ _ h => h)
            refine Or.inl ⟨?_, ?_⟩
            focus (go_simp; done)
            focus (intro w hSw; obtain ⟨g0, g1, g2, g3, g4, g5, g6, g7, o0, x0, x1, x2, x3, x4⟩ := HOpn.out _ hSw; (first | (go_simp; done) | (go_simp; with_reducible rfl)))
            focus assumption
            (try simp only [Act.put, List.setIfInBounds_toArray, List.set_cons_zero, List.set_cons_succ])
            refine' wpAnyH_take (i := 15) (v := _) ?_ ?_ ?_ ?_ ?_ ?_ ?_ ?_
            rotate_left 2
            focus (simp only [List.getElem?_toArray, List.getElem?_cons_succ, List.getElem?_cons_zero]; rfl)
            focus kernel_rfl
            focus kernel_rfl
            focus kernel_rfl
            focus exact (fun _ _ _ h => h)
            refine Or.inl ⟨?_, ?_⟩
            focus (go_simp; done)
            focus (intro w hSw; obtain ⟨g0, g1, g2, g3, g4, g5, g6, g7, o0, x0, x1, x2, x3, x4⟩ := HOpn.out _ hSw; (first | (go_simp; done) | (go_simp; with_reducible rfl)))
            focus assumption
            (try simp only [Act.put, List.setIfInBounds_toArray, List.set_cons_zero, List.set_cons_succ])
            refine' wpAnyH_take (i := 16) (v := _) ?_ ?_ ?_ ?_ ?_ ?_ ?_ ?_
            rotate_left 2
            focus (simp only [List.getElem?_toArray, List.getElem?_cons_succ, List.getElem?_cons_zero]; rfl)
            focus kernel_rfl
            focus kernel_rfl
            focus kernel_rfl
            focus exact (fun _ _ _ h => h)
            refine Or.inl ⟨?_, ?_⟩
            focus (go_simp; done)
            focus (intro w hSw; obtain ⟨g0, g1, g2, g3, g4, g5, g6, g7, o0, x0, x1, x2, x3, x4⟩ := HOpn.out _ hSw; (first | (go_simp; done) | (go_simp; with_reducible rfl)))
            focus assumption
            (try simp only [Act.put, List.setIfInBounds_toArray, List.set_cons_zero, List.set_cons_succ])
            refine' wpAnyH_take (i := 17) (v := _) ?_ ?_ ?_ ?_ ?_ ?_ ?_ ?_
            rotate_left 2
            focus (simp only [List.getElem?_toArray, List.getElem?_cons_succ, List.getElem?_cons_zero]; rfl)
            focus kernel_rfl
            focus kernel_rfl
            focus kernel_rfl
            focus exact (fun _ _ _ h => h)
            refine Or.inl ⟨?_, ?_⟩
            focus (go_simp; done)
            focus (intro w hSw; obtain ⟨g0, g1, g2, g3, g4, g5, g6, g7, o0, x0, x1, x2, x3, x4⟩ := HOpn.out _ hSw; (first | (go_simp; done) | (go_simp; with_reducible rfl)))
            focus assumption
            (try simp only [Act.put, List.setIfInBounds_toArray, List.set_cons_zero, List.set_cons_succ])
            refine' wpAnyH_take (i := 18) (v := _) ?_ ?_ ?_ ?_ ?_ ?_ ?_ ?_
            rotate_left 2
            focus (simp only [List.getElem?_toArray, List.getElem?_cons_succ, List.getElem?_cons_zero]; rfl)
            focus kernel_rfl
            focus kernel_rfl
            focus kernel_rfl
            focus exact (fun _ _ _ h => h)
            refine Or.inl ⟨?_, ?_⟩
            focus (go_simp; done)
            focus (intro w hSw; obtain ⟨g0, g1, g2, g3, g4, g5, g6, g7, o0, x0, x1, x2, x3, x4⟩ := HOpn.out _ hSw; (first | (go_simp; done) | (go_simp; with_reducible rfl)))
            focus assumption
            (try simp only [Act.put, List.setIfInBounds_toArray, List.set_cons_zero, List.set_cons_succ])
            refine' wpAnyH_take (i := 19) (v := _) ?_ ?_ ?_ ?_ ?_ ?_ ?_ ?_
            rotate_left 2
            focus (simp only [List.getElem?_toArray, List.getElem?_cons_succ, List.getElem?_cons_zero]; rfl)
            focus kernel_rfl
            focus kernel_rfl
            focus kernel_rfl
            focus exact (fun _ _ _ h => h)
            refine Or.inl ⟨?_, ?_⟩
            focus (go_simp; done)
            focus (intro w hSw; obtain ⟨g0, g1, g2, g3, g4, g5, g6, g7, o0, x0, x1, x2, x3, x4⟩ := HOpn.out _ hSw; (first | (go_simp; done) | (go_simp; with_reducible rfl)))
            focus assumption
            (try simp only [Act.put, List.setIfInBounds_toArray, List.set_cons_zero, List.set_cons_succ])
            refine' wpAnyH_take (i := 20) (v := _) ?_ ?_ ?_ ?_ ?_ ?_ ?_ ?_
            rotate_left 2
            focus (simp only [List.getElem?_toArray, List.getElem?_cons_succ, List.getElem?_cons_zero]; rfl)
            focus kernel_rfl
            focus kernel_rfl
            focus kernel_rfl
            focus exact (fun _ _ _ h => h)
            refine Or.inl ⟨?_, ?_⟩
            focus (go_simp; done)
            focus (intro w hSw; obtain ⟨g0, g1, g2, g3, g4, g5, g6, g7, o0, x0, x1, x2, x3, x4⟩ := HOpn.out _ hSw; (first | (go_simp; done) | (go_simp; with_reducible rfl)))
            focus assumption
            (try simp only [Act.put, List.setIfInBounds_toArray, List.set_cons_zero, List.set_cons_succ])
            refine' wpAnyH_take (i := 21) (v := _) ?_ ?_ ?_ ?_ ?_ ?_ ?_ ?_
            rotate_left 2
            focus (simp only [List.getElem?_toArray, List.getElem?_cons_succ, List.getElem?_cons_zero]; rfl)
            focus kernel_rfl
            focus kernel_rfl
            focus kernel_rfl
            focus exact (fun _ _ _ h => h)
            refine Or.inl ⟨?_, ?_⟩
            focus (go_simp; done)
            focus (intro w hSw; obtain ⟨g0, g1, g2, g3, g4, g5, g6, g7, o0, x0, x1, x2, x3, x4⟩ := HOpn.out _ hSw; (first | (go_simp; done) | (go_simp; with_reducible rfl)))
            focus assumption
            (try simp only [Act.put, List.setIfInBounds_toArray, List.set_cons_zero, List.set_cons_succ])
            refine' wpAnyH_take (i := 22) (v := undef) ?_ ?_ ?_ ?_ ?_ ?_ ?_ ?_
            rotate_left 1
            focus (simp only [List.getElem?_toArray, List.getElem?_cons_succ, List.getElem?_cons_zero]; rfl)
            focus kernel_rfl
            focus kernel_rfl
            focus kernel_rfl
            focus exact (fun _ _ _ h => h)
            refine Or.inr ⟨?_, rfl⟩
            focus (go_simp; done)
            focus assumption
            (try simp only [Act.put, List.setIfInBounds_toArray, List.set_cons_zero, List.set_cons_succ])
            refine' wpAnyH_take (i := 23) (v := undef) ?_ ?_ ?_ ?_ ?_ ?_ ?_ ?_
            rotate_left 1
            focus (simp only [List.getElem?_toArray, List.getElem?_cons_succ, List.getElem?_cons_zero]; rfl)
            focus kernel_rfl
            focus kernel_rfl
            focus kernel_rfl
            focus exact (fun _ _ _ h => h)
            refine Or.inr ⟨?_, rfl⟩
            focus (go_simp; done)
            focus assumption
            (try simp only [Act.put, List.setIfInBounds_toArray, List.set_cons_zero, List.set_cons_succ])
            refine' wpAnyH_take (i := 24) (v := undef) ?_ ?_ ?_ ?_ ?_ ?_ ?_ ?_
            rotate_left 1
            focus (simp only [List.getElem?_toArray, List.getElem?_cons_succ, List.getElem?_cons_zero]; rfl)
            focus kernel_rfl
            focus kernel_rfl
            focus kernel_rfl
            focus exact (fun _ _ _ h => h)
            refine Or.inr ⟨?_, rfl⟩
            focus (go_simp; done)
            focus assumption
            (try simp only [Act.put, List.setIfInBounds_toArray, List.set_cons_zero, List.set_cons_succ])
            refine' wpAnyH_take (i := 25) (v := undef) ?_ ?_ ?_ ?_ ?_ ?_ ?_ ?_
            rotate_left 1
            focus (simp only [List.getElem?_toArray, List.getElem?_cons_succ, List.getElem?_cons_zero]; rfl)
            focus kernel_rfl
            focus kernel_rfl
            focus kernel_rfl
            focus exact (fun _ _ _ h => h)
            refine Or.inr ⟨?_, rfl⟩
            focus (go_simp; done)
            focus assumption
            (try simp only [Act.put, List.setIfInBounds_toArray, List.set_cons_zero, List.set_cons_succ])
            refine' wpAnyH_take (i := 26) (v := undef) ?_ ?_ ?_ ?_ ?_ ?_ ?_ ?_
            rotate_left 1
            focus (simp only [List.getElem?_toArray, List.getElem?_cons_succ, List.getElem?_cons_zero]; rfl)
            focus kernel_rfl
            focus kernel_rfl
            focus kernel_rfl
            focus exact (fun _ _ _ h => h)
            refine Or.inr ⟨?_, rfl⟩
            focus (go_simp; done)
            focus assumption
            (try simp only [Act.put, List.setIfInBounds_toArray, List.set_cons_zero, List.set_cons_succ])
            refine' wpAnyH_take (i := 27) (v := undef) ?_ ?_ ?_ ?_ ?_ ?_ ?_ ?_
            rotate_left 1
            focus (simp only [List.getElem?_toArray, List.getElem?_cons_succ, List.getElem?_cons_zero]; rfl)
            focus kernel_rfl
            focus kernel_rfl
            focus kernel_rfl
            focus exact (fun _ _ _ h => h)
            refine Or.inr ⟨?_, rfl⟩
            focus (go_simp; done)
            focus assumption
            (try simp only [Act.put, List.setIfInBounds_toArray, List.set_cons_zero, List.set_cons_succ])
            refine' wpAnyH_take (i := 28) (v := undef) ?_ ?_ ?_ ?_ ?_ ?_ ?_ ?_
            rotate_left 1
            focus (simp only [List.getElem?_toArray, List.getElem?_cons_succ, List.getElem?_cons_zero]; rfl)
            focus kernel_rfl
            focus kernel_rfl
            focus kernel_rfl
            focus exact (fun _ _ _ h => h)
            refine Or.inr ⟨?_, rfl⟩
            focus (go_simp; done)
            focus assumption
            (try simp only [Act.put, List.setIfInBounds_toArray, List.set_cons_zero, List.set_cons_succ])
            refine' wpAnyH_take (i := 29) (v := undef) ?_ ?_ ?_ ?_ ?_ ?_ ?_ ?_
            rotate_left 1
            focus (simp only [List.getElem?_toArray, List.getElem?_cons_succ, List.getElem?_cons_zero]; rfl)
            focus kernel_rfl
            focus kernel_rfl
            focus kernel_rfl
            focus exact (fun _ _ _ h => h)
            refine Or.inr ⟨?_, rfl⟩
            focus (go_simp; done)
            focus assumption
            (try simp only [Act.put, List.setIfInBounds_toArray, List.set_cons_zero, List.set_cons_succ])
            refine' wpAnyH_take (i := 30) (v := undef) ?_ ?_ ?_ ?_ ?_ ?_ ?_ ?_
            rotate_left 1
            focus (simp only [List.getElem?_toArray, List.getElem?_cons_succ, List.getElem?_cons_zero]; rfl)
            focus kernel_rfl
            focus kernel_rfl
            focus kernel_rfl
            focus exact (fun _ _ _ h => h)
            refine Or.inr ⟨?_, rfl⟩
            focus (go_simp; done)
            focus assumption
            (try simp only [Act.put, List.setIfInBounds_toArray, List.set_cons_zero, List.set_cons_succ])
            refine' wpAnyH_take (i := 31) (v := undef) ?_ ?_ ?_ ?_ ?_ ?_ ?_ ?_
            rotate_left 1
            focus (simp only [List.getElem?_toArray, List.getElem?_cons_succ, List.getElem?_cons_zero]; rfl)
            focus kernel_rfl
            focus kernel_rfl
            focus kernel_rfl
            focus exact (fun _ _ _ h => h)
            refine Or.inr ⟨?_, rfl⟩
            focus (go_simp; done)
            focus assumption
            (try simp only [Act.put, List.setIfInBounds_toArray, List.set_cons_zero, List.set_cons_succ])
            refine' wpAnyH_take (i := 32) (v := undef) ?_ ?_ ?_ ?_ ?_ ?_ ?_ ?_
            rotate_left 1
            focus (simp only [List.getElem?_toArray, List.getElem?_cons_succ, List.getElem?_cons_zero]; rfl)
            focus kernel_rfl
            focus kernel_rfl
            focus kernel_rfl
            focus exact (fun _ _ _ h => h)
            refine Or.inr ⟨?_, rfl⟩
            focus (go_simp; done)
            focus assumption
            (try simp only [Act.put, List.setIfInBounds_toArray, List.set_cons_zero, List.set_cons_succ])
            refine' wpAnyH_take (i := 33) (v := undef) ?_ ?_ ?_ ?_ ?_ ?_ ?_ ?_
            rotate_left 1
            focus (simp only [List.getElem?_toArray, List.getElem?_cons_succ, List.getElem?_cons_zero]; rfl)
            focus kernel_rfl
            focus kernel_rfl
            focus kernel_rfl
            focus exact (fun _ _ _ h => h)
            refine Or.inr ⟨?_, rfl⟩
            focus (go_simp; done)
            focus assumption
            (try simp only [Act.put, List.setIfInBounds_toArray, List.set_cons_zero, List.set_cons_succ])
            refine' wpAnyH_take (i := 34) (v := undef) ?_ ?_ ?_ ?_ ?_ ?_ ?_ ?_
            rotate_left 1
            focus (simp only [List.getElem?_toArray, List.getElem?_cons_succ, List.getElem?_cons_zero]; rfl)
            focus kernel_rfl
            focus kernel_rfl
            focus kernel_rfl
            focus exact (fun _ _ _ h => h)
            refine Or.inr ⟨?_, rfl⟩
            focus (go_simp; done)
            focus assumption
            (try simp only [Act.put, List.setIfInBounds_toArray, List.set_cons_zero, List.set_cons_succ])
            refine' wpAnyH_take (i := 35) (v := undef) ?_ ?_ ?_ ?_ ?_ ?_ ?_ ?_
            rotate_left 1
            focus (simp only [List.getElem?_toArray, List.getElem?_cons_succ, List.getElem?_cons_zero]; rfl)
            focus kernel_rfl
            focus kernel_rfl
            focus kernel_rfl
            focus exact (fun _ _ _ h => h)
            refine Or.inr ⟨?_, rfl⟩
            focus (go_simp; done)
            focus assumption
            (try simp only [Act.put, List.setIfInBounds_toArray, List.set_cons_zero, List.set_cons_succ])
            refine' wpAnyH_take (i := 36) (v := undef) ?_ ?_ ?_ ?_ ?_ ?_ ?_ ?_
            rotate_left 1
            focus (simp only [List.getElem?_toArray, List.getElem?_cons_succ, List.getElem?_cons_zero]; rfl)
            focus kernel_rfl
            focus kernel_rfl
            focus kernel_rfl
            focus exact (fun _ _ _ h => h)
            refine Or.inr ⟨?_, rfl⟩
            focus (go_simp; done)
            focus assumption
            (try simp only [Act.put, List.setIfInBounds_toArray, List.set_cons_zero, List.set_cons_succ])
            refine' wpAnyH_take (i := 37) (v := _) ?_ ?_ ?_ ?_ ?_ ?_ ?_ ?_
            rotate_left 2
            focus (simp only [List.getElem?_toArray, List.getElem?_cons_succ, List.getElem?_cons_zero]; rfl)
            focus kernel_rfl
            focus kernel_rfl
            focus kernel_rfl
            focus exact (fun _ _ _ h => h)
            refine Or.inl ⟨?_, ?_⟩
            focus (go_simp; done)
            focus (intro w hSw; obtain ⟨g0, g1, g2, g3, g4, g5, g6, g7, o0, x0, x1, x2, x3, x4⟩ := HOpn.out _ hSw; (first | (go_simp; done) | (go_simp; with_reducible rfl)))
            focus assumption
            (try simp only [Act.put, List.setIfInBounds_toArray, List.set_cons_zero, List.set_cons_succ])
            refine wpAnyH_done (by kernel_rfl) ?_ _
            go_wp2
            go_ret
            exact ⟨ret_bool (HR.out.symm.trans HBad.out).symm, hHeld.1⟩
        · have e6 : (kd == 6) = false := by simp [h6]
          by_cases h7 : kd = 7
          · subst h7
            have wm : IntKind.i64.wrap ((no : Int) - 1) = (no : Int) - 1 := by rw [IntWalk.i64_in] <;> omega
            by_cases hl : k + 1 = no
            · have k0 : decide ((k : Int) < (no : Int) - 1) = false := by simp; omega
              have HX := Lib.hid (show Gr.opAt V na b.ops k = true by rw [HAt.out, show _ = _ from H1.out]; simp [hl])
              clear hl h6
              refine wp_region_held_drew (S := (fun u => GBx w w.heap.size (w.heap.size + 1) #[.slice Ai ni ci, .int .i64 V, .int .i64 K, .slice Aa na ca, .int .i64 S, .slice Ab nb cb, .slice Ap np cp, .slice Ah nh ch] #[.slice (some ⟨bbk, off, none⟩) no co, .int .i64 cd, .slice An nn cn] u)) (by kernel_rfl) (by exact HS.out.drew) (fun hHeld => ?_)
              refine' wpAnyH_take (i := 0) (v := _) ?_ ?_ ?_ ?_ ?_ ?_ ?_ ?_
              rotate_left 2
              focus (simp only [List.getElem?_toArray, List.getElem?_cons_succ, List.getElem?_cons_zero]; rfl)
              focus kernel_rfl
              focus kernel_rfl
              focus kernel_rfl
              focus exact (fun _ _ _ h => h)
              refine Or.inl ⟨?_, ?_⟩
              focus (go_simp; done)
              focus (intro w hSw; obtain ⟨g0, g1, g2, g3, g4, g5, g6, g7, o0, x0, x1, x2, x3, x4⟩ := HOpn.out _ hSw; (first | (go_simp; done) | (go_simp; with_reducible rfl)))
              focus assumption
              (try simp only [Act.put, List.setIfInBounds_toArray, List.set_cons_zero, List.set_cons_succ])
              refine' wpAnyH_take (i := 1) (v := _) ?_ ?_ ?_ ?_ ?_ ?_ ?_ ?_
              rotate_left 2
              focus (simp only [List.getElem?_toArray, List.getElem?_cons_succ, List.getElem?_cons_zero]; rfl)
              focus kernel_rfl
              focus kernel_rfl
              focus kernel_rfl
              focus exact (fun _ _ _ h => h)
              refine Or.inl ⟨?_, ?_⟩
              focus (go_simp; done)
              focus (intro w hSw; obtain ⟨g0, g1, g2, g3, g4, g5, g6, g7, o0, x0, x1, x2, x3, x4⟩ := HOpn.out _ hSw; (first | (go_simp; done) | (go_simp; with_reducible rfl)))
              focus assumption
              (try simp only [Act.put, List.setIfInBounds_toArray, List.set_cons_zero, List.set_cons_succ])
              refine' wpAnyH_take (i := 2) (v := _) ?_ ?_ ?_ ?_ ?_ ?_ ?_ ?_
              rotate_left 2
              focus (simp only [List.getElem?_toArray, List.getElem?_cons_succ, List.getElem?_cons_zero]; rfl)
              focus kernel_rfl
              focus kernel_rfl
              focus kernel_rfl
              focus exact (fun _ _ _ h => h)
              refine Or.inl ⟨?_, ?_⟩
              focus (go_simp; done)
              focus (intro w hSw; obtain ⟨g0, g1, g2, g3, g4, g5, g6, g7, o0, x0, x1, x2, x3, x4⟩ := HOpn.out _ hSw; (first | (go_simp; done) | (go_simp; with_reducible rfl)))
              focus assumption
              (try simp only [Act.put, List.setIfInBounds_toArray, List.set_cons_zero, List.set_cons_succ])
              refine' wpAnyH_take (i := 3) (v := _) ?_ ?_ ?_ ?_ ?_ ?_ ?_ ?_
              rotate_left 2
              focus (simp only [List.getElem?_toArray, List.getElem?_cons_succ, List.getElem?_cons_zero]; rfl)
              focus kernel_rfl
              focus kernel_rfl
              focus kernel_rfl
              focus exact (fun _ _ _ h => h)
              refine Or.inl ⟨?_, ?_⟩
              focus (go_simp; done)
              focus (intro w hSw; obtain ⟨g0, g1, g2, g3, g4, g5, g6, g7, o0, x0, x1, x2, x3, x4⟩ := HOpn.out _ hSw; (first | (go_simp; done) | (go_simp; with_reducible rfl)))
              focus assumption
              (try simp only [Act.put, List.setIfInBounds_toArray, List.set_cons_zero, List.set_cons_succ])
              refine' wpAnyH_take (i := 4) (v := _) ?_ ?_ ?_ ?_ ?_ ?_ ?_ ?_
              rotate_left 2
              focus (simp only [List.getElem?_toArray, List.getElem?_cons_succ, List.getElem?_cons_zero]; rfl)
              focus kernel_rfl
              focus kernel_rfl
              focus kernel_rfl
              focus exact (fun _ _ _ h => h)
              refine Or.inl ⟨?_, ?_⟩
              focus (go_simp; done)
              focus (intro w hSw; obtain ⟨g0, g1, g2, g3, g4, g5, g6, g7, o0, x0, x1, x2, x3, x4⟩ := HOpn.out _ hSw; (first | (go_simp; done) | (go_simp; with_reducible rfl)))
              focus assumption
              (try simp only [Act.put, List.setIfInBounds_toArray, List.set_cons_zero, List.set_cons_succ])
              refine' wpAnyH_take (i := 5) (v := _) ?_ ?_ ?_ ?_ ?_ ?_ ?_ ?_
              rotate_left 2
              focus (simp only [List.getElem?_toArray, List.getElem?_cons_succ, List.getElem?_cons_zero]; rfl)
              focus kernel_rfl
              focus kernel_rfl
              focus kernel_rfl
              focus exact (fun _ _ _ h => h)
              refine Or.inl ⟨?_, ?_⟩
              focus (go_simp; done)
              focus (intro w hSw; obtain ⟨g0, g1, g2, g3, g4, g5, g6, g7, o0, x0, x1, x2, x3, x4⟩ := HOpn.out _ hSw; (first | (go_simp; done) | (go_simp; with_reducible rfl)))
              focus assumption
              (try simp only [Act.put, List.setIfInBounds_toArray, List.set_cons_zero, List.set_cons_succ])
              refine wpAnyH_ready (rs := [6]) (by kernel_rfl) (by simp) ?_
              refine' AllReadyH.cons ?_ (fun K hK => ?_) AllReadyH.nil
              rotate_left
              focus (simp only [List.getElem?_toArray, List.getElem?_cons_succ, List.getElem?_cons_zero]; rfl)
              go_simp
              (go_at_call 92; refine (rp_any _ _ _ _ _ _ _ _ _ _ _ _ _ _ _ _ _ _ hna 7 d a bb i _ H1.out _).mono ?_; rintro e w4 ⟨rfl, hb⟩)
              refine hK.out _ _ (hHeld.below hb) (fun hHeld => ?_)
              clear hK K
              (try simp only [Act.put, List.setIfInBounds_toArray, List.set_cons_zero, List.set_cons_succ])
              clear hb
              refine' wpAnyH_take (i := 7) (v := _) ?_ ?_ ?_ ?_ ?_ ?_ ?_ ?_
              rotate_left 2
              focus (simp only [List.getElem?_toArray, List.getElem?_cons_succ, List.getElem?_cons_zero]; rfl)
              focus kernel_rfl
              focus kernel_rfl
              focus kernel_rfl
              focus exact (fun _ _ _ h => h)
              refine Or.inl ⟨?_, ?_⟩
              focus (go_simp; done)
              focus (intro w hSw; obtain ⟨g0, g1, g2, g3, g4, g5, g6, g7, o0, x0, x1, x2, x3, x4⟩ := HOpn.out _ hSw; (first | (go_simp; done) | (go_simp; with_reducible rfl)))
              focus assumption
              (try simp only [Act.put, List.setIfInBounds_toArray, List.set_cons_zero, List.set_cons_succ])
              refine' wpAnyH_take (i := 8) (v := _) ?_ ?_ ?_ ?_ ?_ ?_ ?_ ?_
              rotate_left 2
              focus (simp only [List.getElem?_toArray, List.getElem?_cons_succ, List.getElem?_cons_zero]; rfl)
              focus kernel_rfl
              focus kernel_rfl
              focus kernel_rfl
              focus exact (fun _ _ _ h => h)
              refine Or.inl ⟨?_, ?_⟩
              focus (go_simp; done)
              focus (intro w hSw; obtain ⟨g0, g1, g2, g3, g4, g5, g6, g7, o0, x0, x1, x2, x3, x4⟩ := HOpn.out _ hSw; (first | (go_simp; done) | (go_simp; with_reducible rfl)))
              focus assumption
              (try simp only [Act.put, List.setIfInBounds_toArray, List.set_cons_zero, List.set_cons_succ])
              refine' wpAnyH_take (i := 9) (v := _) ?_ ?_ ?_ ?_ ?_ ?_ ?_ ?_
              rotate_left 2
              focus (simp only [List.getElem?_toArray, List.getElem?_cons_succ, List.getElem?_cons_zero]; rfl)
              focus kernel_rfl
              focus kernel_rfl
              focus kernel_rfl
              focus exact (fun _ _ _ h => h)
              refine Or.inl ⟨?_, ?_⟩
              focus (go_simp; done)
              focus (intro w hSw; obtain ⟨g0, g1, g2, g3, g4, g5, g6, g7, o0, x0, x1, x2, x3, x4⟩ := HOpn.out _ hSw; (first | (go_simp; done) | (go_simp; with_reducible rfl)))
              focus assumption
              (try simp only [Act.put, List.setIfInBounds_toArray, List.set_cons_zero, List.set_cons_succ])
              refine' wpAnyH_take (i := 10) (v := _) ?_ ?_ ?_ ?_ ?_ ?_ ?_ ?_
              rotate_left 2
              focus (simp only [List.getElem?_toArray, List.getElem?_cons_succ, List.getElem?_cons_zero]; rfl)
              focus kernel_rfl
              focus kernel_rfl
              focus kernel_rfl
              focus exact (fun _ _ _ h => h)
              refine Or.inl ⟨?_, ?_⟩
              focus (go_simp; done)
              focus (intro w hSw; obtain ⟨g0, g1, g2, g3, g4, g5, g6, g7, o0, x0, x1, x2, x3, x4⟩ := HOpn.out _ hSw; (first | (go_simp; done) | (go_simp; with_reducible rfl)))
              focus assumption
              (try simp only [Act.put, List.setIfInBounds_toArray, List.set_cons_zero, List.set_cons_succ])
              refine' wpAnyH_take (i := 11) (v := _) ?_ ?_ ?_ ?_ ?_ ?_ ?_ ?_
              rotate_left 2
              focus (simp only [List.getElem?_toArray, List.getElem?_cons_succ, List.getElem?_cons_zero]; rfl)
              focus kernel_rfl
              focus kernel_rfl
              focus kernel_rfl
              focus exact (fun _ _ _ h => h)
              refine Or.inl ⟨?_, ?_⟩
              focus (go_simp; done)
              focus (intro w hSw; obtain ⟨g0, g1, g2, g3, g4, g5, g6, g7, o0, x0, x1, x2, x3, x4⟩ := HOpn.out _ hSw; (first | (go_simp; done) | (go_simp; with_reducible rfl)))
              focus assumption
              (try simp only [Act.put, List.setIfInBounds_toArray, List.set_cons_zero, List.set_cons_succ])
              refine' wpAnyH_take (i := 12) (v := _) ?_ ?_ ?_ ?_ ?_ ?_ ?_ ?_
              rotate_left 2
              focus (simp only [List.getElem?_toArray, List.getElem?_cons_succ, List.getElem?_cons_zero]; rfl)
              focus kernel_rfl
              focus kernel_rfl
              focus kernel_rfl
              focus exact (fun _ _ _ h => h)
              refine Or.inl ⟨?_, ?_⟩
              focus (go_simp; done)
              focus (intro w hSw; obtain ⟨g0, g1, g2, g3, g4, g5, g6, g7, o0, x0, x1, x2, x3, x4⟩ := HOpn.out _ hSw; (first | (go_simp; done) | (go_simp; with_reducible rfl)))
              focus assumption
              (try simp only [Act.put, List.setIfInBounds_toArray, List.set_cons_zero, List.set_cons_succ])
              refine' wpAnyH_take (i := 13) (v := _) ?_ ?_ ?_ ?_ ?_ ?_ ?_ ?_
              rotate_left 2
              focus (simp only [List.getElem?_toArray, List.getElem?_cons_succ, List.getElem?_cons_zero]; rfl)
              focus kernel_rfl
              focus kernel_rfl
              focus kernel_rfl
              focus exact (fun _ _ _ h => h)
              refine Or.inl ⟨?_, ?_⟩
              focus (go_simp; done)
              focus (intro w hSw; obtain ⟨g0, g1, g2, g3, g4, g5, g6, g7, o0, x0, x1, x2, x3, x4⟩ := HOpn.out _ hSw; (first | (go_simp; done) | (go_simp; with_reducible rfl)))
              focus assumption
              (try simp only [Act.put, List.setIfInBounds_toArray, List.set_cons_zero, List.set_cons_succ])
              refine' wpAnyH_take (i := 14) (v := _) ?_ ?_ ?_ ?_ ?_ ?_ ?_ ?_
              rotate_left 2
              focus (simp only [List.getElem?_toArray, List.getElem?_cons_succ, List.getElem?_cons_zero]; rfl)
              focus kernel_rfl
              focus kernel_rfl
              focus kernel_rfl
              focus exact (fun _ _ _ h => h)
              refine Or.inl ⟨?_, ?_⟩
              focus (go_simp; done)
              focus (intro w hSw; obtain ⟨g0, g1, g2, g3, g4, g5, g6, g7, o0, x0, x1, x2, x3, x4⟩ := HOpn.out _ hSw; (first | (go_simp; done) | (go_simp; with_reducible rfl)))
              focus assumption
              (try simp only [Act.put, List.setIfInBounds_toArray, List.set_cons_zero, List.set_cons_succ])
              refine' wpAnyH_take (i := 15) (v := _) ?_ ?_ ?_ ?_ ?_ ?_ ?_ ?_
              rotate_left 2
              focus (simp only [List.getElem?_toArray, List.getElem?_cons_succ, List.getElem?_cons_zero]; rfl)
              focus kernel_rfl
              focus kernel_rfl
              focus kernel_rfl
              focus exact (fun _ _ _ h => h)
              refine Or.inl ⟨?_, ?_⟩
              focus (go_simp; done)
              focus (intro w hSw; obtain ⟨g0, g1, g2, g3, g4, g5, g6, g7, o0, x0, x1, x2, x3, x4⟩ := HOpn.out _ hSw; (first | (go_simp; done) | (go_simp; with_reducible rfl)))
              focus assumption
              (try simp only [Act.put, List.setIfInBounds_toArray, List.set_cons_zero, List.set_cons_succ])
              refine' wpAnyH_take (i := 16) (v := _) ?_ ?_ ?_ ?_ ?_ ?_ ?_ ?_
              rotate_left 2
              focus (simp only [List.getElem?_toArray, List.getElem?_cons_succ, List.getElem?_cons_zero]; rfl)
              focus kernel_rfl
              focus kernel_rfl
              focus kernel_rfl
              focus exact (fun _ _ _ h => h)
              refine Or.inl ⟨?_, ?_⟩
              focus (go_simp; done)
              focus (intro w hSw; obtain ⟨g0, g1, g2, g3, g4, g5, g6, g7, o0, x0, x1, x2, x3, x4⟩ := HOpn.out _ hSw; (first | (go_simp; done) | (go_simp; with_reducible rfl)))
              focus assumption
              (try simp only [Act.put, List.setIfInBounds_toArray, List.set_cons_zero, List.set_cons_succ])
              refine' wpAnyH_take (i := 17) (v := undef) ?_ ?_ ?_ ?_ ?_ ?_ ?_ ?_
              rotate_left 1
              focus (simp only [List.getElem?_toArray, List.getElem?_cons_succ, List.getElem?_cons_zero]; rfl)
              focus kernel_rfl
              focus kernel_rfl
              focus kernel_rfl
              focus exact (fun _ _ _ h => h)
              refine Or.inr ⟨?_, rfl⟩
              focus (go_simp; done)
              focus assumption
              (try simp only [Act.put, List.setIfInBounds_toArray, List.set_cons_zero, List.set_cons_succ])
              refine' wpAnyH_take (i := 18) (v := undef) ?_ ?_ ?_ ?_ ?_ ?_ ?_ ?_
              rotate_left 1
              focus (simp only [List.getElem?_toArray, List.getElem?_cons_succ, List.getElem?_cons_zero]; rfl)
              focus kernel_rfl
              focus kernel_rfl
              focus kernel_rfl
              focus exact (fun _ _ _ h => h)
              refine Or.inr ⟨?_, rfl⟩
              focus (go_simp; done)
              focus assumption
              (try simp only [Act.put, List.setIfInBounds_toArray, List.set_cons_zero, List.set_cons_succ])
              refine' wpAnyH_take (i := 19) (v := _) ?_ ?_ ?_ ?_ ?_ ?_ ?_ ?_
              rotate_left 2
              focus (simp only [List.getElem?_toArray, List.getElem?_cons_succ, List.getElem?_cons_zero]; rfl)
              focus kernel_rfl
              focus kernel_rfl
              focus kernel_rfl
              focus exact (fun _ _ _ h => h)
              refine Or.inl ⟨?_, ?_⟩
              focus (go_simp; done)
              focus (intro w hSw; obtain ⟨g0, g1, g2, g3, g4, g5, g6, g7, o0, x0, x1, x2, x3, x4⟩ := HOpn.out _ hSw; (first | (go_simp; done) | (go_simp; with_reducible rfl)))
              focus assumption
              (try simp only [Act.put, List.setIfInBounds_toArray, List.set_cons_zero, List.set_cons_succ])
              refine' wpAnyH_take (i := 20) (v := _) ?_ ?_ ?_ ?_ ?_ ?_ ?_ ?_
              rotate_left 2
              focus (simp only [List.getElem?_toArray, List.getElem?_cons_succ, List.getElem?_cons_zero]; rfl)
              focus kernel_rfl
              focus kernel_rfl
              focus kernel_rfl
              focus exact (fun _ _ _ h => h)
              refine Or.inl ⟨?_, ?_⟩
              focus (go_simp; done)
              focus (intro w hSw; obtain ⟨g0, g1, g2, g3, g4, g5, g6, g7, o0, x0, x1, x2, x3, x4⟩ := HOpn.out _ hSw; (first | (go_simp; done) | (go_simp; with_reducible rfl)))
              focus assumption
              (try simp only [Act.put, List.setIfInBounds_toArray, List.set_cons_zero, List.set_cons_succ])
              refine' wpAnyH_take (i := 21) (v := _) ?_ ?_ ?_ ?_ ?_ ?_ ?_ ?_
              rotate_left 2
              focus (simp only [List.getElem?_toArray, List.getElem?_cons_succ, List.getElem?_cons_zero]; rfl)
              focus kernel_rfl
              focus kernel_rfl
              focus kernel_rfl
              focus exact (fun _ _ _ h => h)
              refine Or.inl ⟨?_, ?_⟩
              focus (go_simp; done)
              focus (intro w hSw; obtain ⟨g0, g1, g2, g3, g4, g5, g6, g7, o0, x0, x1, x2, x3, x4⟩ := HOpn.out _ hSw; (first | (go_simp; done) | (go_simp; with_reducible rfl)))
              focus assumption
              (try simp only [Act.put, List.setIfInBounds_toArray, List.set_cons_zero, List.set_cons_succ])
              refine' wpAnyH_take (i := 22) (v := _) ?_ ?_ ?_ ?_ ?_ ?_ ?_ ?_
              rotate_left 2
              focus (simp only [List.getElem?_toArray, List.getElem?_cons_succ, List.getElem?_cons_zero]; rfl)
              focus kernel_rfl
              focus kernel_rfl
              focus kernel_rfl
              focus exact (fun _ _ _ h => h)
              refine Or.inl ⟨?_, ?_⟩
              focus (go_simp; done)
              focus (intro w hSw; obtain ⟨g0, g1, g2, g3, g4, g5, g6, g7, o0, x0, x1, x2, x3, x4⟩ := HOpn.out _ hSw; (first | (go_simp; done) | (go_simp; with_reducible rfl)))
              focus assumption
              (try simp only [Act.put, List.setIfInBounds_toArray, List.set_cons_zero, List.set_cons_succ])
              refine' wpAnyH_take (i := 23) (v := _) ?_ ?_ ?_ ?_ ?_ ?_ ?_ ?_
              rotate_left 2
              focus (simp only [List.getElem?_toArray, List.getElem?_cons_succ, List.getElem?_cons_zero]; rfl)
              focus kernel_rfl
              focus kernel_rfl
              focus kernel_rfl
              focus exact (fun _ _ _ h => h)
              refine Or.inl ⟨?_, ?_⟩
              focus (go_simp; done)
              focus (intro w hSw; obtain ⟨g0, g1, g2, g3, g4, g5, g6, g7, o0, x0, x1, x2, x3, x4⟩ := HOpn.out _ hSw; (first | (go_simp; done) | (go_simp; with_reducible rfl)))
              focus assumption
              (try simp only [Act.put, List.setIfInBounds_toArray, List.set_cons_zero, List.set_cons_succ])
              refine' wpAnyH_take (i := 24) (v := _) ?_ ?_ ?_ ?_ ?_ ?_ ?_ ?_
              rotate_left 2
              focus (simp only [List.getElem?_toArray, List.getElem?_cons_succ, List.getElem?_cons_zero]; rfl)
              focus kernel_rfl
              focus kernel_rfl
              focus kernel_rfl
              focus exact (fun _ _ _ h => h)
              refine Or.inl ⟨?_, ?_⟩
              focus (go_simp; done)
              focus (intro w hSw; obtain ⟨g0, g1, g2, g3, g4, g5, g6, g7, o0, x0, x1, x2, x3, x4⟩ := HOpn.out _ hSw; (first | (go_simp; done) | (go_simp; with_reducible rfl)))
              focus assumption
              (try simp only [Act.put, List.setIfInBounds_toArray, List.set_cons_zero, List.set_cons_succ])
              refine' wpAnyH_take (i := 25) (v := _) ?_ ?_ ?_ ?_ ?_ ?_ ?_ ?_
              rotate_left 2
              focus (simp only [List.getElem?_toArray, List.getElem?_cons_succ, List.getElem?_cons_zero]; rfl)
              focus kernel_rfl
              focus kernel_rfl
              focus kernel_rfl
              focus exact (fun _ _ _ h => h)
              refine Or.inl ⟨?_, ?_⟩
              focus (go_simp; done)
              focus (intro w hSw; obtain ⟨g0, g1, g2, g3, g4, g5, g6, g7, o0, x0, x1, x2, x3, x4⟩ := HOpn.out _ hSw; (first | (go_simp; done) | (go_simp; with_reducible rfl)))
              focus assumption
              (try simp only [Act.put, List.setIfInBounds_toArray, List.set_cons_zero, List.set_cons_succ])
              refine' wpAnyH_take (i := 26) (v := _) ?_ ?_ ?_ ?_ ?_ ?_ ?_ ?_
              rotate_left 2
              focus (simp only [List.getElem?_toArray, List.getElem?_cons_succ, List.getElem?_cons_zero]; rfl)
              focus kernel_rfl
              focus kernel_rfl
              focus kernel_rfl
              focus exact (fun _ _ _ h => h)
              refine Or.inl ⟨?_, ?_⟩
              focus (go_simp; done)
              focus (intro w hSw; obtain ⟨g0, g1, g2, g3, g4, g5, g6, g7, o0, x0, x1, x2, x3, x4⟩ := HOpn.out _ hSw; (first | (go_simp; done) | (go_simp; with_reducible rfl)))
              focus assumption
              (try simp only [Act.put, List.setIfInBounds_toArray, List.set_cons_zero, List.set_cons_succ])
              refine' wpAnyH_take (i := 27) (v := _) ?_ ?_ ?_ ?_ ?_ ?_ ?_ ?_
              rotate_left 2
              focus (simp only [List.getElem?_toArray, List.getElem?_cons_succ, List.getElem?_cons_zero]; rfl)
              focus kernel_rfl
              focus kernel_rfl
              focus kernel_rfl
              focus exact (fun _ _ _ h => h)
              refine Or.inl ⟨?_, ?_⟩
              focus (go_simp; done)
              focus (intro w hSw; obtain ⟨g0, g1, g2, g3, g4, g5, g6, g7, o0, x0, x1, x2, x3, x4⟩ := HOpn.out _ hSw; (first | (go_simp; done) | (go_simp; with_reducible rfl)))
              focus assumption
              (try simp only [Act.put, List.setIfInBounds_toArray, List.set_cons_zero, List.set_cons_succ])
              refine' wpAnyH_take (i := 28) (v := _) ?_ ?_ ?_ ?_ ?_ ?_ ?_ ?_
              rotate_left 2
              focus (simp only [List.getElem?_toArray, List.getElem?_cons_succ, List.getElem?_cons_zero]; rfl)
              focus kernel_rfl
              focus kernel_rfl
              focus kernel_rfl
              focus exact (fun _ _ _ h => h)
              refine Or.inl ⟨?_, ?_⟩
              focus (go_simp; done)
              focus (intro w hSw; obtain ⟨g0, g1, g2, g3, g4, g5, g6, g7, o0, x0, x1, x2, x3, x4⟩ := HOpn.out _ hSw; (first | (go_simp; done) | (go_simp; with_reducible rfl)))
              focus assumption
              (try simp only [Act.put, List.setIfInBounds_toArray, List.set_cons_zero, List.set_cons_succ])
              refine' wpAnyH_take (i := 29) (v := _) ?_ ?_ ?_ ?_ ?_ ?_ ?_ ?_
              rotate_left 2
              focus (simp only [List.getElem?_toArray, List.getElem?_cons_succ, List.getElem?_cons_zero]; rfl)
              focus kernel_rfl
              focus kernel_rfl
              focus kernel_rfl
              focus exact (fun _ _ _ h => h)
              refine Or.inl ⟨?_, ?_⟩
              focus (go_simp; done)
              focus (intro w hSw; obtain ⟨g0, g1, g2, g3, g4, g5, g6, g7, o0, x0, x1, x2, x3, x4⟩ := HOpn.out _ hSw; (first | (go_simp; done) | (go_simp; with_reducible rfl)))
              focus assumption
              (try simp only [Act.put, List.setIfInBounds_toArray, List.set_cons_zero, List.set_cons_succ])
              refine' wpAnyH_take (i := 30) (v := _) ?_ ?_ ?_ ?_ ?_ ?_ ?_ ?_
              rotate_left 2
              focus (simp only [List.getElem?_toArray, List.getElem?_cons_succ, List.getElem?_cons_zero]; rfl)
              focus kernel_rfl
              focus kernel_rfl
              focus kernel_rfl
              focus exact (fun _ _ _ h => h)
              refine Or.inl ⟨?_, ?_⟩
              focus (go_simp; done)
              focus (intro w hSw; obtain ⟨g0, g1, g2, g3, g4, g5, g6, g7, o0, x0, x1, x2, x3, x4⟩ := HOpn.out _ hSw; (first | (go_simp; done) | (go_simp; with_reducible rfl)))
              focus assumption
              (try simp only [Act.put, List.setIfInBounds_toArray, List.set_cons_zero, List.set_cons_succ])
              refine' wpAnyH_take (i := 31) (v := _) ?_ ?_ ?_ ?_ ?_ ?_ ?_ ?_
              rotate_left 2
              focus (simp only [List.getElem?_toArray, List.getElem?_cons_succ, List.getElem?_cons_zero]; rfl)
              focus kernel_rfl
              focus kernel_rfl
              focus kernel_rfl
              focus exact (fun _ _ _ h => h)
              refine Or.inl ⟨?_, ?_⟩
              focus (go_simp; done)
              focus (intro w hSw; obtain ⟨g0, g1, g2, g3, g4, g5, g6, g7, o0, x0, x1, x2, x3, x4⟩ := HOpn.out _ hSw; (first | (go_simp; done) | (go_simp; with_reducible rfl)))
              focus assumption
              (try simp only [Act.put, List.setIfInBounds_toArray, List.set_cons_zero, List.set_cons_succ])
              refine' wpAnyH_take (i := 32) (v := _) ?_ ?_ ?_ ?_ ?_ ?_ ?_ ?_
              rotate_left 2
              focus (simp only [List.getElem?_toArray, List.getElem?_cons_succ, List.getElem?_cons_zero]; rfl)
              focus kernel_rfl
              focus kernel_rfl
              focus kernel_rfl
              focus exact (fun _ _ _ h => h)
              refine Or.inl ⟨?_, ?_⟩
              focus (go_simp; done)
              focus (intro w hSw; obtain ⟨g0, g1, g2, g3, g4, g5, g6, g7, o0, x0, x1, x2, x3, x4⟩ := HOpn.out _ hSw; (first | (go_simp; done) | (go_simp; with_reducible rfl)))
              focus assumption
              (try simp only [Act.put, List.setIfInBounds_toArray, List.set_cons_zero, List.set_cons_succ])
              refine' wpAnyH_take (i := 33) (v := _) ?_ ?_ ?_ ?_ ?_ ?_ ?_ ?_
              rotate_left 2
              focus (simp only [List.getElem?_toArray, List.getElem?_cons_succ, List.getElem?_cons_zero]; rfl)
              focus kernel_rfl
              focus kernel_rfl
              focus kernel_rfl
              focus exact (fun _ _ _ h => h)
              refine Or.inl ⟨?_, ?_⟩
              focus (go_simp; done)
              focus (intro w hSw; obtain ⟨g0, g1, g2, g3, g4, g5, g6, g7, o0, x0, x1, x2, x3, x4⟩ := HOpn.out _ hSw; (first | (go_simp; done) | (go_simp; with_reducible rfl)))
              focus assumption
              (try simp only [Act.put, List.setIfInBounds_toArray, List.set_cons_zero, List.set_cons_succ])
              refine' wpAnyH_take (i := 34) (v := _) ?_ ?_ ?_ ?_ ?_ ?_ ?_ ?_
              rotate_left 2
              focus (simp only [List.getElem?_toArray, List.getElem?_cons_succ, List.getElem?_cons_zero]; rfl)
              focus kernel_rfl
              focus kernel_rfl
              focus kernel_rfl
              focus exact (fun _ _ _ h => h)
              refine Or.inl ⟨?_, ?_⟩
              focus (go_simp; done)
              focus (intro w hSw; obtain ⟨g0, g1, g2, g3, g4, g5, g6, g7, o0, x0, x1, x2, x3, x4⟩ := HOpn.out _ hSw; (first | (go_simp; done) | (go_simp; with_reducible rfl)))
              focus assumption
              (try simp only [Act.put, List.setIfInBounds_toArray, List.set_cons_zero, List.set_cons_succ])
              refine' wpAnyH_take (i := 35) (v := _) ?_ ?_ ?_ ?_ ?_ ?_ ?_ ?_
              rotate_left 2
              focus (simp only [List.getElem?_toArray, List.getElem?_cons_succ, List.getElem?_cons_zero]; rfl)
              focus kernel_rfl
              focus kernel_rfl
              focus kernel_rfl
              focus exact (fun _ _ _ h => h)
              refine Or.inl ⟨?_, ?_⟩
              focus (go_simp; done)
              focus (intro w hSw; obtain ⟨g0, g1, g2, g3, g4, g5, g6, g7, o0, x0, x1, x2, x3, x4⟩ := HOpn.out _ hSw; (first | (go_simp; done) | (go_simp; with_reducible rfl)))
              focus assumption
              (try simp only [Act.put, List.setIfInBounds_toArray, List.set_cons_zero, List.set_cons_succ])
              refine' wpAnyH_take (i := 36) (v := _) ?_ ?_ ?_ ?_ ?_ ?_ ?_ ?_
              rotate_left 2
              focus (simp only [List.getElem?_toArray, List.getElem?_cons_succ, List.getElem?_cons_zero]; rfl)
              focus kernel_rfl
              focus kernel_rfl
              focus kernel_rfl
              focus exact (fun _ _ _ h => h)
              refine Or.inl ⟨?_, ?_⟩
              focus (go_simp; done)
              focus (intro w hSw; obtain ⟨g0, g1, g2, g3, g4, g5, g6, g7, o0, x0, x1, x2, x3, x4⟩ := HOpn.out _ hSw; (first | (go_simp; done) | (go_simp; with_reducible rfl)))
              focus assumption
              (try simp only [Act.put, List.setIfInBounds_toArray, List.set_cons_zero, List.set_cons_succ])
              refine' wpAnyH_take (i := 37) (v := _) ?_ ?_ ?_ ?_ ?_ ?_ ?_ ?_
              rotate_left 2
              focus (simp only [List.getElem?_toArray, List.getElem?_cons_succ, List.getElem?_cons_zero]; rfl)
              focus kernel_rfl
              focus kernel_rfl
              focus kernel_rfl
              focus exact (fun _ _ _ h => h)
              refine Or.inl ⟨?_, ?_⟩
              focus (go_simp; done)
              focus (intro w hSw; obtain ⟨g0, g1, g2, g3, g4, g5, g6, g7, o0, x0, x1, x2, x3, x4⟩ := HOpn.out _ hSw; (first | (go_simp; done) | (go_simp; with_reducible rfl)))
              focus assumption
              (try simp only [Act.put, List.setIfInBounds_toArray, List.set_cons_zero, List.set_cons_succ])
              refine wpAnyH_done (by kernel_rfl) ?_ _
              go_wp2
              go_roundw
              case rel => exact ⟨k + 1, by omega, by first | rfl | go_num, Lib.hid hHeld, Lib.hid fun j hj => by rcases Nat.lt_succ_iff_lt_or_eq.1 hj with h | rfl; exact HF.out j h; exact HX.out⟩
              case measure => simp [intOf]; omega
            · have k0 : decide ((k : Int) < (no : Int) - 1) = true := by simp; omega
              have HBad := Lib.hid (show Gr.blkOk V na nb b = false by rw [blkOk_ops (all_false (by rw [HNo.out]; exact hlt) (HAt.out.trans (by simp [hl])))])
              clear hl h6
              refine wp_region_held_drew (S := (fun u => GBx w w.heap.size (w.heap.size + 1) #[.slice Ai ni ci, .int .i64 V, .int .i64 K, .slice Aa na ca, .int .i64 S, .slice Ab nb cb, .slice Ap np cp, .slice Ah nh ch] #[.slice (some ⟨bbk, off, none⟩) no co, .int .i64 cd, .slice An nn cn] u)) (by kernel_rfl) (by exact HS.out.drew) (fun hHeld => ?_)
              refine' wpAnyH_take (i := 0) (v := _) ?_ ?_ ?_ ?_ ?_ ?_ ?_ ?_
              rotate_left 2
              focus (simp only [List.getElem?_toArray, List.getElem?_cons_succ, List.getElem?_cons_zero]; rfl)
              focus kernel_rfl
              focus kernel_rfl
              focus kernel_rfl
              focus exact (fun _ _ _ h => h)
              refine Or.inl ⟨?_, ?_⟩
              focus (go_simp; done)
              focus (intro w hSw; obtain ⟨g0, g1, g2, g3, g4, g5, g6, g7, o0, x0, x1, x2, x3, x4⟩ := HOpn.out _ hSw; (first | (go_simp; done) | (go_simp; with_reducible rfl)))
              focus assumption
              (try simp only [Act.put, List.setIfInBounds_toArray, List.set_cons_zero, List.set_cons_succ])
              refine' wpAnyH_take (i := 1) (v := _) ?_ ?_ ?_ ?_ ?_ ?_ ?_ ?_
              rotate_left 2
              focus (simp only [List.getElem?_toArray, List.getElem?_cons_succ, List.getElem?_cons_zero]; rfl)
              focus kernel_rfl
              focus kernel_rfl
              focus kernel_rfl
              focus exact (fun _ _ _ h => h)
              refine Or.inl ⟨?_, ?_⟩
              focus (go_simp; done)
              focus (intro w hSw; obtain ⟨g0, g1, g2, g3, g4, g5, g6, g7, o0, x0, x1, x2, x3, x4⟩ := HOpn.out _ hSw; (first | (go_simp; done) | (go_simp; with_reducible rfl)))
              focus assumption
              (try simp only [Act.put, List.setIfInBounds_toArray, List.set_cons_zero, List.set_cons_succ])
              refine' wpAnyH_take (i := 2) (v := _) ?_ ?_ ?_ ?_ ?_ ?_ ?_ ?_
              rotate_left 2
              focus (simp only [List.getElem?_toArray, List.getElem?_cons_succ, List.getElem?_cons_zero]; rfl)
              focus kernel_rfl
              focus kernel_rfl
              focus kernel_rfl
              focus exact (fun _ _ _ h => h)
              refine Or.inl ⟨?_, ?_⟩
              focus (go_simp; done)
              focus (intro w hSw; obtain ⟨g0, g1, g2, g3, g4, g5, g6, g7, o0, x0, x1, x2, x3, x4⟩ := HOpn.out _ hSw; (first | (go_simp; done) | (go_simp; with_reducible rfl)))
              focus assumption
              (try simp only [Act.put, List.setIfInBounds_toArray, List.set_cons_zero, List.set_cons_succ])
              refine' wpAnyH_take (i := 3) (v := _) ?_ ?_ ?_ ?_ ?_ ?_ ?_ ?_
              rotate_left 2
              focus (simp only [List.getElem?_toArray, List.getElem?_cons_succ, List.getElem?_cons_zero]; rfl)
              focus kernel_rfl
              focus kernel_rfl
              focus kernel_rfl
              focus exact (fun _ _ _ h => h)
              refine Or.inl ⟨?_, ?_⟩
              focus (go_simp; done)
              focus (intro w hSw; obtain ⟨g0, g1, g2, g3, g4, g5, g6, g7, o0, x0, x1, x2, x3, x4⟩ := HOpn.out _ hSw; (first | (go_simp; done) | (go_simp; with_reducible rfl)))
              focus assumption
              (try simp only [Act.put, List.setIfInBounds_toArray, List.set_cons_zero, List.set_cons_succ])
              refine' wpAnyH_take (i := 4) (v := _) ?_ ?_ ?_ ?_ ?_ ?_ ?_ ?_
              rotate_left 2
              focus (simp only [List.getElem?_toArray, List.getElem?_cons_succ, List.getElem?_cons_zero]; rfl)
              focus kernel_rfl
              focus kernel_rfl
              focus kernel_rfl
              focus exact (fun _ _ _ h => h)
              refine Or.inl ⟨?_, ?_⟩
              focus (go_simp; done)
              focus (intro w hSw; obtain ⟨g0, g1, g2, g3, g4, g5, g6, g7, o0, x0, x1, x2, x3, x4⟩ := HOpn.out _ hSw; (first | (go_simp; done) | (go_simp; with_reducible rfl)))
              focus assumption
              (try simp only [Act.put, List.setIfInBounds_toArray, List.set_cons_zero, List.set_cons_succ])
              refine' wpAnyH_take (i := 5) (v := _) ?_ ?_ ?_ ?_ ?_ ?_ ?_ ?_
              rotate_left 2
              focus (simp only [List.getElem?_toArray, List.getElem?_cons_succ, List.getElem?_cons_zero]; rfl)
              focus kernel_rfl
              focus kernel_rfl
              focus kernel_rfl
              focus exact (fun _ _ _ h => h)
              refine Or.inl ⟨?_, ?_⟩
              focus (go_simp; done)
              focus (intro w hSw; obtain ⟨g0, g1, g2, g3, g4, g5, g6, g7, o0, x0, x1, x2, x3, x4⟩ := HOpn.out _ hSw; (first | (go_simp; done) | (go_simp; with_reducible rfl)))
              focus assumption
              (try simp only [Act.put, List.setIfInBounds_toArray, List.set_cons_zero, List.set_cons_succ])
              refine wpAnyH_ready (rs := [6]) (by kernel_rfl) (by simp) ?_
              refine' AllReadyH.cons ?_ (fun K hK => ?_) AllReadyH.nil
              rotate_left
              focus (simp only [List.getElem?_toArray, List.getElem?_cons_succ, List.getElem?_cons_zero]; rfl)
              go_simp
              (go_at_call 92; refine (rp_any _ _ _ _ _ _ _ _ _ _ _ _ _ _ _ _ _ _ hna 7 d a bb i _ H1.out _).mono ?_; rintro e w4 ⟨rfl, hb⟩)
              refine hK.out _ _ (hHeld.below hb) (fun hHeld => ?_)
              clear hK K
              (try simp only [Act.put, List.setIfInBounds_toArray, List.set_cons_zero, List.set_cons_succ])
              clear hb
              refine' wpAnyH_take (i := 7) (v := _) ?_ ?_ ?_ ?_ ?_ ?_ ?_ ?_
              rotate_left 2
              focus (simp only [List.getElem?_toArray, List.getElem?_cons_succ, List.getElem?_cons_zero]; rfl)
              focus kernel_rfl
              focus kernel_rfl
              focus kernel_rfl
              focus exact (fun _ _ _ h => h)
              refine Or.inl ⟨?_, ?_⟩
              focus (go_simp; done)
              focus (intro w hSw; obtain ⟨g0, g1, g2, g3, g4, g5, g6, g7, o0, x0, x1, x2, x3, x4⟩ := HOpn.out _ hSw; (first | (go_simp; done) | (go_simp; with_reducible rfl)))
              focus assumption
              (try simp only [Act.put, List.setIfInBounds_toArray, List.set_cons_zero, List.set_cons_succ])
              refine' wpAnyH_take (i := 8) (v := _) ?_ ?_ ?_ ?_ ?_ ?_ ?_ ?_
              rotate_left 2
              focus (simp only [List.getElem?_toArray, List.getElem?_cons_succ, List.getElem?_cons_zero]; rfl)
              focus kernel_rfl
              focus kernel_rfl
              focus kernel_rfl
              focus exact (fun _ _ _ h => h)
              refine Or.inl ⟨?_, ?_⟩
              focus (go_simp; done)
              focus (intro w hSw; obtain ⟨g0, g1, g2, g3, g4, g5, g6, g7, o0, x0, x1, x2, x3, x4⟩ := HOpn.out _ hSw; (first | (go_simp; done) | (go_simp; with_reducible rfl)))
              focus assumption
              (try simp only [Act.put, List.setIfInBounds_toArray, List.set_cons_zero, List.set_cons_succ])
              refine' wpAnyH_take (i := 9) (v := _) ?_ ?_ ?_ ?_ ?_ ?_ ?_ ?_
              rotate_left 2
              focus (simp only [List.getElem?_toArray, List.getElem?_cons_succ, List.getElem?_cons_zero]; rfl)
              focus kernel_rfl
              focus kernel_rfl
              focus kernel_rfl
              focus exact (fun _ _ _ h => h)
              refine Or.inl ⟨?_, ?_⟩
              focus (go_simp; done)
              focus (intro w hSw; obtain ⟨g0, g1, g2, g3, g4, g5, g6, g7, o0, x0, x1, x2, x3, x4⟩ := HOpn.out _ hSw; (first | (go_simp; done) | (go_simp; with_reducible rfl)))
              focus assumption
              (try simp only [Act.put, List.setIfInBounds_toArray, List.set_cons_zero, List.set_cons_succ])
              refine' wpAnyH_take (i := 10) (v := _) ?_ ?_ ?_ ?_ ?_ ?_ ?_ ?_
              rotate_left 2
              focus (simp only [List.getElem?_toArray, List.getElem?_cons_succ, List.getElem?_cons_zero]; rfl)
              focus kernel_rfl
              focus kernel_rfl
              focus kernel_rfl
              focus exact (fun _ _ _ h => h)
              refine Or.inl ⟨?_, ?_⟩
              focus (go_simp; done)
              focus (intro w hSw; obtain ⟨g0, g1, g2, g3, g4, g5, g6, g7, o0, x0, x1, x2, x3, x4⟩ := HOpn.out _ hSw; (first | (go_simp; done) | (go_simp; with_reducible rfl)))
              focus assumption
              (try simp only [Act.put, List.setIfInBounds_toArray, List.set_cons_zero, List.set_cons_succ])
              refine' wpAnyH_take (i := 11) (v := _) ?_ ?_ ?_ ?_ ?_ ?_ ?_ ?_
              rotate_left 2
              focus (simp only [List.getElem?_toArray, List.getElem?_cons_succ, List.getElem?_cons_zero]; rfl)
              focus kernel_rfl
              focus kernel_rfl
              focus kernel_rfl
              focus exact (fun _ _ _ h => h)
              refine Or.inl ⟨?_, ?_⟩
              focus (go_simp; done)
              focus (intro w hSw; obtain ⟨g0, g1, g2, g3, g4, g5, g6, g7, o0, x0, x1, x2, x3, x4⟩ := HOpn.out _ hSw; (first | (go_simp; done) | (go_simp; with_reducible rfl)))
              focus assumption
              (try simp only [Act.put, List.setIfInBounds_toArray, List.set_cons_zero, List.set_cons_succ])
              refine' wpAnyH_take (i := 12) (v := _) ?_ ?_ ?_ ?_ ?_ ?_ ?_ ?_
              rotate_left 2
              focus (simp only [List.getElem?_toArray, List.getElem?_cons_succ, List.getElem?_cons_zero]; rfl)
              focus kernel_rfl
              focus kernel_rfl
              focus kernel_rfl
              focus exact (fun _ _ _ h => h)
              refine Or.inl ⟨?_, ?_⟩
              focus (go_simp; done)
              focus (intro w hSw; obtain ⟨g0, g1, g2, g3, g4, g5, g6, g7, o0, x0, x1, x2, x3, x4⟩ := HOpn.out _ hSw; (first | (go_simp; done) | (go_simp; with_reducible rfl)))
              focus assumption
              (try simp only [Act.put, List.setIfInBounds_toArray, List.set_cons_zero, List.set_cons_succ])
              refine' wpAnyH_take (i := 13) (v := _) ?_ ?_ ?_ ?_ ?_ ?_ ?_ ?_
              rotate_left 2
              focus (simp only [List.getElem?_toArray, List.getElem?_cons_succ, List.getElem?_cons_zero]; rfl)
              focus kernel_rfl
              focus kernel_rfl
              focus kernel_rfl
              focus exact (fun _ _ _ h => h)
              refine Or.inl ⟨?_, ?_⟩
              focus (go_simp; done)
              focus (intro w hSw; obtain ⟨g0, g1, g2, g3, g4, g5, g6, g7, o0, x0, x1, x2, x3, x4⟩ := HOpn.out _ hSw; (first | (go_simp; done) | (go_simp; with_reducible rfl)))
              focus assumption
              (try simp only [Act.put, List.setIfInBounds_toArray, List.set_cons_zero, List.set_cons_succ])
              refine' wpAnyH_take (i := 14) (v := _) ?_ ?_ ?_ ?_ ?_ ?_ ?_ ?_
              rotate_left 2
              focus (simp only [List.getElem?_toArray, List.getElem?_cons_succ, List.getElem?_cons_zero]; rfl)
              focus kernel_rfl
              focus kernel_rfl
              focus kernel_rfl
              focus exact (fun _ _ _ h => h)
              refine Or.inl ⟨?_, ?_⟩
              focus (go_simp; done)
              focus (intro w hSw; obtain ⟨g0, g1, g2, g3, g4, g5, g6, g7, o0, x0, x1, x2, x3, x4⟩ := HOpn.out _ hSw; (first | (go_simp; done) | (go_simp; with_reducible rfl)))
              focus assumption
              (try simp only [Act.put, List.setIfInBounds_toArray, List.set_cons_zero, List.set_cons_succ])
              refine' wpAnyH_take (i := 15) (v := _) ?_ ?_ ?_ ?_ ?_ ?_ ?_ ?_
              rotate_left 2
              focus (simp only [List.getElem?_toArray, List.getElem?_cons_succ, List.getElem?_cons_zero]; rfl)
              focus kernel_rfl
              focus kernel_rfl
              focus kernel_rfl
              focus exact (fun _ _ _ h => h)
              refine Or.inl ⟨?_, ?_⟩
              focus (go_simp; done)
              focus (intro w hSw; obtain ⟨g0, g1, g2, g3, g4, g5, g6, g7, o0, x0, x1, x2, x3, x4⟩ := HOpn.out _ hSw; (first | (go_simp; done) | (go_simp; with_reducible rfl)))
              focus assumption
              (try simp only [Act.put, List.setIfInBounds_toArray, List.set_cons_zero, List.set_cons_succ])
              refine' wpAnyH_take (i := 16) (v := _) ?_ ?_ ?_ ?_ ?_ ?_ ?_ ?_
              rotate_left 2
              focus (simp only [List.getElem?_toArray, List.getElem?_cons_succ, List.getElem?_cons_zero]; rfl)
              focus kernel_rfl
              focus kernel_rfl
              focus kernel_rfl
              focus exact (fun _ _ _ h => h)
              refine Or.inl ⟨?_, ?_⟩
              focus (go_simp; done)
              focus (intro w hSw; obtain ⟨g0, g1, g2, g3, g4, g5, g6, g7, o0, x0, x1, x2, x3, x4⟩ := HOpn.out _ hSw; (first | (go_simp; done) | (go_simp; with_reducible rfl)))
              focus assumption
              (try simp only [Act.put, List.setIfInBounds_toArray, List.set_cons_zero, List.set_cons_succ])
              refine' wpAnyH_take (i := 17) (v := undef) ?_ ?_ ?_ ?_ ?_ ?_ ?_ ?_
              rotate_left 1
              focus (simp only [List.getElem?_toArray, List.getElem?_cons_succ, List.getElem?_cons_zero]; rfl)
              focus kernel_rfl
              focus kernel_rfl
              focus kernel_rfl
              focus exact (fun _ _ _ h => h)
              refine Or.inr ⟨?_, rfl⟩
              focus (go_simp; done)
              focus assumption
              (try simp only [Act.put, List.setIfInBounds_toArray, List.set_cons_zero, List.set_cons_succ])
              refine' wpAnyH_take (i := 18) (v := undef) ?_ ?_ ?_ ?_ ?_ ?_ ?_ ?_
              rotate_left 1
              focus (simp only [List.getElem?_toArray, List.getElem?_cons_succ, List.getElem?_cons_zero]; rfl)
              focus kernel_rfl
              focus kernel_rfl
              focus kernel_rfl
              focus exact (fun _ _ _ h => h)
              refine Or.inr ⟨?_, rfl⟩
              focus (go_simp; done)
              focus assumption
              (try simp only [Act.put, List.setIfInBounds_toArray, List.set_cons_zero, List.set_cons_succ])
              refine' wpAnyH_take (i := 19) (v := _) ?_ ?_ ?_ ?_ ?_ ?_ ?_ ?_
              rotate_left 2
              focus (simp only [List.getElem?_toArray, List.getElem?_cons_succ, List.getElem?_cons_zero]; rfl)
              focus kernel_rfl
              focus kernel_rfl
              focus kernel_rfl
              focus exact (fun _ _ _ h => h)
              refine Or.inl ⟨?_, ?_⟩
              focus (go_simp; done)
              focus (intro w hSw; obtain ⟨g0, g1, g2, g3, g4, g5, g6, g7, o0, x0, x1, x2, x3, x4⟩ := HOpn.out _ hSw; (first | (go_simp; done) | (go_simp; with_reducible rfl)))
              focus assumption
              (try simp only [Act.put, List.setIfInBounds_toArray, List.set_cons_zero, List.set_cons_succ])
              refine' wpAnyH_take (i := 20) (v := _) ?_ ?_ ?_ ?_ ?_ ?_ ?_ ?_
              rotate_left 2
              focus (simp only [List.getElem?_toArray, List.getElem?_cons_succ, List.getElem?_cons_zero]; rfl)
              focus kernel_rfl
              focus kernel_rfl
              focus kernel_rfl
              focus exact (fun _ _ _ h => h)
              refine Or.inl ⟨?_, ?_⟩
              focus (go_simp; done)
              focus (intro w hSw; obtain ⟨g0, g1, g2, g3, g4, g5, g6, g7, o0, x0, x1, x2, x3, x4⟩ := HOpn.out _ hSw; (first | (go_simp; done) | (go_simp; with_reducible rfl)))
              focus assumption
              (try simp only [Act.put, List.setIfInBounds_toArray, List.set_cons_zero, List.set_cons_succ])
              refine' wpAnyH_take (i := 21) (v := _) ?_ ?_ ?_ ?_ ?_ ?_ ?_ ?_
              rotate_left 2
              focus (simp only [List.getElem?_toArray, List.getElem?_cons_succ, List.getElem?_cons_zero]; rfl)
              focus kernel_rfl
              focus kernel_rfl
              focus kernel_rfl
              focus exact (fun _ _ _ h => h)
              refine Or.inl ⟨?_, ?_⟩
              focus (go_simp; done)
              focus (intro w hSw; obtain ⟨g0, g1, g2, g3, g4, g5, g6, g7, o0, x0, x1, x2, x3, x4⟩ := HOpn.out _ hSw; (first | (go_simp; done) | (go_simp; with_reducible rfl)))
              focus assumption
              (try simp only [Act.put, List.setIfInBounds_toArray, List.set_cons_zero, List.set_cons_succ])
              refine' wpAnyH_take (i := 22) (v := _) ?_ ?_ ?_ ?_ ?_ ?_ ?_ ?_
              rotate_left 2
              focus (simp only [List.getElem?_toArray, List.getElem?_cons_succ, List.getElem?_cons_zero]; rfl)
              focus kernel_rfl
              focus kernel_rfl
              focus kernel_rfl
              focus exact (fun _ _ _ h => h)
              refine Or.inl ⟨?_, ?_⟩
              focus (go_simp; done)
              focus (intro w hSw; obtain ⟨g0, g1, g2, g3, g4, g5, g6, g7, o0, x0, x1, x2, x3, x4⟩ := HOpn.out _ hSw; (first | (go_simp; done) | (go_simp; with_reducible rfl)))
              focus assumption
              (try simp only [Act.put, List.setIfInBounds_toArray, List.set_cons_zero, List.set_cons_succ])
              refine' wpAnyH_take (i := 23) (v := _) ?_ ?_ ?_ ?_ ?_ ?_ ?_ ?_
              rotate_left 2
              focus (simp only [List.getElem?_toArray, List.getElem?_cons_succ, List.getElem?_cons_zero]; rfl)
              focus kernel_rfl
              focus kernel_rfl
              focus kernel_rfl
              focus exact (fun _ _ _ h => h)
              refine Or.inl ⟨?_, ?_⟩
              focus (go_simp; done)
              focus (intro w hSw; obtain ⟨g0, g1, g2, g3, g4, g5, g6, g7, o0, x0, x1, x2, x3, x4⟩ := HOpn.out _ hSw; (first | (go_simp; done) | (go_simp; with_reducible rfl)))
              focus assumption
              (try simp only [Act.put, List.setIfInBounds_toArray, List.set_cons_zero, List.set_cons_succ])
              refine' wpAnyH_take (i := 24) (v := _) ?_ ?_ ?_ ?_ ?_ ?_ ?_ ?_
              rotate_left 2
              focus (simp only [List.getElem?_toArray, List.getElem?_cons_succ, List.getElem?_cons_zero]; rfl)
              focus kernel_rfl
              focus kernel_rfl
              focus kernel_rfl
              focus exact (fun _ _ _ h => h)
              refine Or.inl ⟨?_, ?_⟩
              focus (go_simp; done)
              focus (intro w hSw; obtain ⟨g0, g1, g2, g3, g4, g5, g6, g7, o0, x0, x1, x2, x3, x4⟩ := HOpn.out _ hSw; (first | (go_simp; done) | (go_simp; with_reducible rfl)))
              focus assumption
              (try simp only [Act.put, List.setIfInBounds_toArray, List.set_cons_zero, List.set_cons_succ])
              refine' wpAnyH_take (i := 25) (v := _) ?_ ?_ ?_ ?_ ?_ ?_ ?_ ?_
              rotate_left 2
              focus (simp only [List.getElem?_toArray, List.getElem?_cons_succ, List.getElem?_cons_zero]; rfl)
              focus kernel_rfl
              focus kernel_rfl
              focus kernel_rfl
              focus exact (fun _ _ _ h => h)
              refine Or.inl ⟨?_, ?_⟩
              focus (go_simp; done)
              focus (intro w hSw; obtain ⟨g0, g1, g2, g3, g4, g5, g6, g7, o0, x0, x1, x2, x3, x4⟩ := HOpn.out _ hSw; (first | (go_simp; done) | (go_simp; with_reducible rfl)))
              focus assumption
              (try simp only [Act.put, List.setIfInBounds_toArray, List.set_cons_zero, List.set_cons_succ])
              refine' wpAnyH_take (i := 26) (v := _) ?_ ?_ ?_ ?_ ?_ ?_ ?_ ?_
              rotate_left 2
              focus (simp only [List.getElem?_toArray, List.getElem?_cons_succ, List.getElem?_cons_zero]; rfl)
              focus kernel_rfl
              focus kernel_rfl
              focus kernel_rfl
              focus exact (fun _ _ _ h => h)
              refine Or.inl ⟨?_, ?_⟩
              focus (go_simp; done)
              focus (intro w hSw; obtain ⟨g0, g1, g2, g3, g4, g5, g6, g7, o0, x0, x1, x2, x3, x4⟩ := HOpn.out _ hSw; (first | (go_simp; done) | (go_simp; with_reducible rfl)))
              focus assumption
              (try simp only [Act.put, List.setIfInBounds_toArray, List.set_cons_zero, List.set_cons_succ])
              refine' wpAnyH_take (i := 27) (v := _) ?_ ?_ ?_ ?_ ?_ ?_ ?_ ?_
              rotate_left 2
              focus (simp only [List.getElem?_toArray, List.getElem?_cons_succ, List.getElem?_cons_zero]; rfl)
              focus kernel_rfl
              focus kernel_rfl
              focus kernel_rfl
              focus exact (fun _ _ _ h => h)
              refine Or.inl ⟨?_, ?_⟩
              focus (go_simp; done)
              focus (intro w hSw; obtain ⟨g0, g1, g2, g3, g4, g5, g6, g7, o0, x0, x1, x2, x3, x4⟩ := HOpn.out _ hSw; (first | (go_simp; done) | (go_simp; with_reducible rfl)))
              focus assumption
              (try simp only [Act.put, List.setIfInBounds_toArray, List.set_cons_zero, List.set_cons_succ])
              refine' wpAnyH_take (i := 28) (v := _) ?_ ?_ ?_ ?_ ?_ ?_ ?_ ?_
              rotate_left 2
              focus (simp only [List.getElem?_toArray, List.getElem?_cons_succ, List.getElem?_cons_zero]; rfl)
              focus kernel_rfl
              focus kernel_rfl
              focus kernel_rfl
              focus exact (fun _ _ _ h => h)
              refine Or.inl ⟨?_, ?_⟩
              focus (go_simp; done)
              focus (intro w hSw; obtain ⟨g0, g1, g2, g3, g4, g5, g6, g7, o0, x0, x1, x2, x3, x4⟩ := HOpn.out _ hSw; (first | (go_simp; done) | (go_simp; with_reducible rfl)))
              focus assumption
              (try simp only [Act.put, List.setIfInBounds_toArray, List.set_cons_zero, List.set_cons_succ])
              refine' wpAnyH_take (i := 29) (v := _) ?_ ?_ ?_ ?_ ?_ ?_ ?_ ?_
              rotate_left 2
              focus (simp only [List.getElem?_toArray, List.getElem?_cons_succ, List.getElem?_cons_zero]; rfl)
              focus kernel_rfl
              focus kernel_rfl
              focus kernel_rfl
              focus exact (fun _ _ _ h => h)
              refine Or.inl ⟨?_, ?_⟩
              focus (go_simp; done)
              focus (intro w hSw; obtain ⟨g0, g1, g2, g3, g4, g5, g6, g7, o0, x0, x1, x2, x3, x4⟩ := HOpn.out _ hSw; (first | (go_simp; done) | (go_simp; with_reducible rfl)))
              focus assumption
              (try simp only [Act.put, List.setIfInBounds_toArray, List.set_cons_zero, List.set_cons_succ])
              refine' wpAnyH_take (i := 30) (v := _) ?_ ?_ ?_ ?_ ?_ ?_ ?_ ?_
              rotate_left 2
              focus (simp only [List.getElem?_toArray, List.getElem?_cons_succ, List.getElem?_cons_zero]; rfl)
              focus kernel_rfl
              focus kernel_rfl
              focus kernel_rfl
              focus exact (fun _ _ _ h => h)
              refine Or.inl ⟨?_, ?_⟩
              focus (go_simp; done)
              focus (intro w hSw; obtain ⟨g0, g1, g2, g3, g4, g5, g6, g7, o0, x0, x1, x2, x3, x4⟩ := HOpn.out _ hSw; (first | (go_simp; done) | (go_simp; with_reducible rfl)))
              focus assumption
              (try simp only [Act.put, List.setIfInBounds_toArray, List.set_cons_zero, List.set_cons_succ])
              refine' wpAnyH_take (i := 31) (v := _) ?_ ?_ ?_ ?_ ?_ ?_ ?_ ?_
              rotate_left 2
              focus (simp only [List.getElem?_toArray, List.getElem?_cons_succ, List.getElem?_cons_zero]; rfl)
              focus kernel_rfl
              focus kernel_rfl
              focus kernel_rfl
              focus exact (fun _ _ _ h => h)
              refine Or.inl ⟨?_, ?_⟩
              focus (go_simp; done)
              focus (intro w hSw; obtain ⟨g0, g1, g2, g3, g4, g5, g6, g7, o0, x0, x1, x2, x3, x4⟩ := HOpn.out _ hSw; (first | (go_simp; done) | (go_simp; with_reducible rfl)))
              focus assumption
              (try simp only [Act.put, List.setIfInBounds_toArray, List.set_cons_zero, List.set_cons_succ])
              refine' wpAnyH_take (i := 32) (v := _) ?_ ?_ ?_ ?_ ?_ ?_ ?_ ?_
              rotate_left 2
              focus (simp only [List.getElem?_toArray, List.getElem?_cons_succ, List.getElem?_cons_zero]; rfl)
              focus kernel_rfl
              focus kernel_rfl
              focus kernel_rfl
              focus exact (fun _ _ _ h => h)
              refine Or.inl ⟨?_, ?_⟩
              focus (go_simp; done)
              focus (intro w hSw; obtain ⟨g0, g1, g2, g3, g4, g5, g6, g7, o0, x0, x1, x2, x3, x4⟩ := HOpn.out _ hSw; (first | (go_simp; done) | (go_simp; with_reducible rfl)))
              focus assumption
              (try simp only [Act.put, List.setIfInBounds_toArray, List.set_cons_zero, List.set_cons_succ])
              refine' wpAnyH_take (i := 33) (v := _) ?_ ?_ ?_ ?_ ?_ ?_ ?_ ?_
              rotate_left 2
              focus (simp only [List.getElem?_toArray, List.getElem?_cons_succ, List.getElem?_cons_zero]; rfl)
              focus kernel_rfl
              focus kernel_rfl
              focus kernel_rfl
              focus exact (fun _ _ _ h => h)
              refine Or.inl ⟨?_, ?_⟩
              focus (go_simp; done)
              focus (intro w hSw; obtain ⟨g0, g1, g2, g3, g4, g5, g6, g7, o0, x0, x1, x2, x3, x4⟩ := HOpn.out _ hSw; (first | (go_simp; done) | (go_simp; with_reducible rfl)))
              focus assumption
              (try simp only [Act.put, List.setIfInBounds_toArray, List.set_cons_zero, List.set_cons_succ])
              refine' wpAnyH_take (i := 34) (v := _) ?_ ?_ ?_ ?_ ?_ ?_ ?_ ?_
              rotate_left 2
              focus (simp only [List.getElem?_toArray, List.getElem?_cons_succ, List.getElem?_cons_zero]; rfl)
              focus kernel_rfl
              focus kernel_rfl
              focus kernel_rfl
              focus exact (fun _ _ _ h => h)
              refine Or.inl ⟨?_, ?_⟩
              focus (go_simp; done)
              focus (intro w hSw; obtain ⟨g0, g1, g2, g3, g4, g5, g6, g7, o0, x0, x1, x2, x3, x4⟩ := HOpn.out _ hSw; (first | (go_simp; done) | (go_simp; with_reducible rfl)))
              focus assumption
              (try simp only [Act.put, List.setIfInBounds_toArray, List.set_cons_zero, List.set_cons_succ])
              refine' wpAnyH_take (i := 35) (v := _) ?_ ?_ ?_ ?_ ?_ ?_ ?_ ?_
              rotate_left 2
              focus (simp only [List.getElem?_toArray, List.getElem?_cons_succ, List.getElem?_cons_zero]; rfl)
              focus kernel_rfl
              focus kernel_rfl
              focus kernel_rfl
              focus exact (fun _ _ _ h => h)
              refine Or.inl ⟨?_, ?_⟩
              focus (go_simp; done)
              focus (intro w hSw; obtain ⟨g0, g1, g2, g3, g4, g5, g6, g7, o0, x0, x1, x2, x3, x4⟩ := HOpn.out _ hSw; (first | (go_simp; done) | (go_simp; with_reducible rfl)))
              focus assumption
              (try simp only [Act.put, List.setIfInBounds_toArray, List.set_cons_zero, List.set_cons_succ])
              refine' wpAnyH_take (i := 36) (v := _) ?_ ?_ ?_ ?_ ?_ ?_ ?_ ?_
              rotate_left 2
              focus (simp only [List.getElem?_toArray, List.getElem?_cons_succ, List.getElem?_cons_zero]; rfl)
              focus kernel_rfl
              focus kernel_rfl
              focus kernel_rfl
              focus exact (fun _ _ _ h => h)
              refine Or.inl ⟨?_, ?_⟩
              focus (go_simp; done)
              focus (intro w hSw; obtain ⟨g0, g1, g2, g3, g4, g5, g6, g7, o0, x0, x1, x2, x3, x4⟩ := HOpn.out _ hSw; (first | (go_simp; done) | (go_simp; with_reducible rfl)))
              focus assumption
              (try simp only [Act.put, List.setIfInBounds_toArray, List.set_cons_zero, List.set_cons_succ])
              refine' wpAnyH_take (i := 37) (v := _) ?_ ?_ ?_ ?_ ?_ ?_ ?_ ?_
              rotate_left 2
              focus (simp only [List.getElem?_toArray, List.getElem?_cons_succ, List.getElem?_cons_zero]; rfl)
              focus kernel_rfl
              focus kernel_rfl
              focus kernel_rfl
              focus exact (fun _ _ _ h => h)
              refine Or.inl ⟨?_, ?_⟩
              focus (go_simp; done)
              focus (intro w hSw; obtain ⟨g0, g1, g2, g3, g4, g5, g6, g7, o0, x0, x1, x2, x3, x4⟩ := HOpn.out _ hSw; (first | (go_simp; done) | (go_simp; with_reducible rfl)))
              focus assumption
              (try simp only [Act.put, List.setIfInBounds_toArray, List.set_cons_zero, List.set_cons_succ])
              refine wpAnyH_done (by kernel_rfl) ?_ _
              go_wp2
              go_ret
              exact ⟨ret_bool (HR.out.symm.trans HBad.out).symm, hHeld.1⟩
          · have e7 : (kd == 7) = false := by simp [h7]
            have HX := Lib.hid (show Gr.opAt V na b.ops k = true by rw [HAt.out, show _ = _ from H1.out]; simp [h6, h7])
            clear h6 h7
            refine wp_region_held_drew (S := (fun u => GBx w w.heap.size (w.heap.size + 1) #[.slice Ai ni ci, .int .i64 V, .int .i64 K, .slice Aa na ca, .int .i64 S, .slice Ab nb cb, .slice Ap np cp, .slice Ah nh ch] #[.slice (some ⟨bbk, off, none⟩) no co, .int .i64 cd, .slice An nn cn] u)) (by kernel_rfl) (by exact HS.out.drew) (fun hHeld => ?_)
            refine' wpAnyH_take (i := 0) (v := _) ?_ ?_ ?_ ?_ ?_ ?_ ?_ ?_
            rotate_left 2
            focus (simp only [List.getElem?_toArray, List.getElem?_cons_succ, List.getElem?_cons_zero]; rfl)
            focus kernel_rfl
            focus kernel_rfl
            focus kernel_rfl
            focus exact (fun _ _ _ h => h)
            refine Or.inl ⟨?_, ?_⟩
            focus (go_simp; done)
            focus (intro w hSw; obtain ⟨g0, g1, g2, g3, g4, g5, g6, g7, o0, x0, x1, x2, x3, x4⟩ := HOpn.out _ hSw; (first | (go_simp; done) | (go_simp; with_reducible rfl)))
            focus assumption
            (try simp only [Act.put, List.setIfInBounds_toArray, List.set_cons_zero, List.set_cons_succ])
            refine' wpAnyH_take (i := 1) (v := _) ?_ ?_ ?_ ?_ ?_ ?_ ?_ ?_
            rotate_left 2
            focus (simp only [List.getElem?_toArray, List.getElem?_cons_succ, List.getElem?_cons_zero]; rfl)
            focus kernel_rfl
            focus kernel_rfl
            focus kernel_rfl
            focus exact (fun _ _ _ h => h)
            refine Or.inl ⟨?_, ?_⟩
            focus (go_simp; done)
            focus (intro w hSw; obtain ⟨g0, g1, g2, g3, g4, g5, g6, g7, o0, x0, x1, x2, x3, x4⟩ := HOpn.out _ hSw; (first | (go_simp; done) | (go_simp; with_reducible rfl)))
            focus assumption
            (try simp only [Act.put, List.setIfInBounds_toArray, List.set_cons_zero, List.set_cons_succ])
            refine' wpAnyH_take (i := 2) (v := _) ?_ ?_ ?_ ?_ ?_ ?_ ?_ ?_
            rotate_left 2
            focus (simp only [List.getElem?_toArray, List.getElem?_cons_succ, List.getElem?_cons_zero]; rfl)
            focus kernel_rfl
            focus kernel_rfl
            focus kernel_rfl
            focus exact (fun _ _ _ h => h)
            refine Or.inl ⟨?_, ?_⟩
            focus (go_simp; done)
            focus (intro w hSw; obtain ⟨g0, g1, g2, g3, g4, g5, g6, g7, o0, x0, x1, x2, x3, x4⟩ := HOpn.out _ hSw; (first | (go_simp; done) | (go_simp; with_reducible rfl)))
            focus assumption
            (try simp only [Act.put, List.setIfInBounds_toArray, List.set_cons_zero, List.set_cons_succ])
            refine' wpAnyH_take (i := 3) (v := _) ?_ ?_ ?_ ?_ ?_ ?_ ?_ ?_
            rotate_left 2
            focus (simp only [List.getElem?_toArray, List.getElem?_cons_succ, List.getElem?_cons_zero]; rfl)
            focus kernel_rfl
            focus kernel_rfl
            focus kernel_rfl
            focus exact (fun _ _ _ h => h)
            refine Or.inl ⟨?_, ?_⟩
            focus (go_simp; done)
            focus (intro w hSw; obtain ⟨g0, g1, g2, g3, g4, g5, g6, g7, o0, x0, x1, x2, x3, x4⟩ := HOpn.out _ hSw; (first | (go_simp; done) | (go_simp; with_reducible rfl)))
            focus assumption
            (try simp only [Act.put, List.setIfInBounds_toArray, List.set_cons_zero, List.set_cons_succ])
            refine' wpAnyH_take (i := 4) (v := _) ?_ ?_ ?_ ?_ ?_ ?_ ?_ ?_
            rotate_left 2
            focus (simp only [List.getElem?_toArray, List.getElem?_cons_succ, List.getElem?_cons_zero]; rfl)
            focus kernel_rfl
            focus kernel_rfl
            focus kernel_rfl
            focus exact (fun _ _ _ h => h)
            refine Or.inl ⟨?_, ?_⟩
            focus (go_simp; done)
            focus (intro w hSw; obtain ⟨g0, g1, g2, g3, g4, g5, g6, g7, o0, x0, x1, x2, x3, x4⟩ := HOpn.out _ hSw; (first | (go_simp; done) | (go_simp; with_reducible rfl)))
            focus assumption
            (try simp only [Act.put, List.setIfInBounds_toArray, List.set_cons_zero, List.set_cons_succ])
            refine' wpAnyH_take (i := 5) (v := _) ?_ ?_ ?_ ?_ ?_ ?_ ?_ ?_
            rotate_left 2
            focus (simp only [List.getElem?_toArray, List.getElem?_cons_succ, List.getElem?_cons_zero]; rfl)
            focus kernel_rfl
            focus kernel_rfl
            focus kernel_rfl
            focus exact (fun _ _ _ h => h)
            refine Or.inl ⟨?_, ?_⟩
            focus (go_simp; done)
            focus (intro w hSw; obtain ⟨g0, g1, g2, g3, g4, g5, g6, g7, o0, x0, x1, x2, x3, x4⟩ := HOpn.out _ hSw; (first | (go_simp; done) | (go_simp; with_reducible rfl)))
            focus assumption
            (try simp only [Act.put, List.setIfInBounds_toArray, List.set_cons_zero, List.set_cons_succ])
            refine wpAnyH_ready (rs := [6]) (by kernel_rfl) (by simp) ?_
            refine' AllReadyH.cons ?_ (fun K hK => ?_) AllReadyH.nil
            rotate_left
            focus (simp only [List.getElem?_toArray, List.getElem?_cons_succ, List.getElem?_cons_zero]; rfl)
            go_simp
            (go_at_call 92; refine (rp_any _ _ _ _ _ _ _ _ _ _ _ _ _ _ _ _ _ _ hna kd d a bb i _ H1.out _).mono ?_; rintro e w4 ⟨rfl, hb⟩)
            refine hK.out _ _ (hHeld.below hb) (fun hHeld => ?_)
            clear hK K
            (try simp only [Act.put, List.setIfInBounds_toArray, List.set_cons_zero, List.set_cons_succ])
            clear hb
            refine' wpAnyH_take (i := 7) (v := _) ?_ ?_ ?_ ?_ ?_ ?_ ?_ ?_
            rotate_left 2
            focus (simp only [List.getElem?_toArray, List.getElem?_cons_succ, List.getElem?_cons_zero]; rfl)
            focus kernel_rfl
            focus kernel_rfl
            focus kernel_rfl
            focus exact (fun _ _ _ h => h)
            refine Or.inl ⟨?_, ?_⟩
            focus (go_simp; done)
            focus (intro w hSw; obtain ⟨g0, g1, g2, g3, g4, g5, g6, g7, o0, x0, x1, x2, x3, x4⟩ := HOpn.out _ hSw; (first | (go_simp; done) | (go_simp; with_reducible rfl)))
            focus assumption
            (try simp only [Act.put, List.setIfInBounds_toArray, List.set_cons_zero, List.set_cons_succ])
            refine' wpAnyH_take (i := 8) (v := _) ?_ ?_ ?_ ?_ ?_ ?_ ?_ ?_
            rotate_left 2
            focus (simp only [List.getElem?_toArray, List.getElem?_cons_succ, List.getElem?_cons_zero]; rfl)
            focus kernel_rfl
            focus kernel_rfl
            focus kernel_rfl
            focus exact (fun _ _ _ h => h)
            refine Or.inl ⟨?_, ?_⟩
            focus (go_simp; done)
            focus (intro w hSw; obtain ⟨g0, g1, g2, g3, g4, g5, g6, g7, o0, x0, x1, x2, x3, x4⟩ := HOpn.out _ hSw; (first | (go_simp; done) | (go_simp; with_reducible rfl)))
            focus assumption
            (try simp only [Act.put, List.setIfInBounds_toArray, List.set_cons_zero, List.set_cons_succ])
            refine' wpAnyH_take (i := 9) (v := _) ?_ ?_ ?_ ?_ ?_ ?_ ?_ ?_
            rotate_left 2
            focus (simp only [List.getElem?_toArray, List.getElem?_cons_succ, List.getElem?_cons_zero]; rfl)
            focus kernel_rfl
            focus kernel_rfl
            focus kernel_rfl
            focus exact (fun _ _ _ h => h)
            refine Or.inl ⟨?_, ?_⟩
            focus (go_simp; done)
            focus (intro w hSw; obtain ⟨g0, g1, g2, g3, g4, g5, g6, g7, o0, x0, x1, x2, x3, x4⟩ := HOpn.out _ hSw; (first | (go_simp; done) | (go_simp; with_reducible rfl)))
            focus assumption
            (try simp only [Act.put, List.setIfInBounds_toArray, List.set_cons_zero, List.set_cons_succ])
            refine' wpAnyH_take (i := 10) (v := _) ?_ ?_ ?_ ?_ ?_ ?_ ?_ ?_
            rotate_left 2
            focus (simp only [List.getElem?_toArray, List.getElem?_cons_succ, List.getElem?_cons_zero]; rfl)
            focus kernel_rfl
            focus kernel_rfl
            focus kernel_rfl
            focus exact (fun _ _ _ h => h)
            refine Or.inl ⟨?_, ?_⟩
            focus (go_simp; done)
            focus (intro w hSw; obtain ⟨g0, g1, g2, g3, g4, g5, g6, g7, o0, x0, x1, x2, x3, x4⟩ := HOpn.out _ hSw; (first | (go_simp; done) | (go_simp; with_reducible rfl)))
            focus assumption
            (try simp only [Act.put, List.setIfInBounds_toArray, List.set_cons_zero, List.set_cons_succ])
            refine' wpAnyH_take (i := 11) (v := _) ?_ ?_ ?_ ?_ ?_ ?_ ?_ ?_
            rotate_left 2
            focus (simp only [List.getElem?_toArray, List.getElem?_cons_succ, List.getElem?_cons_zero]; rfl)
            focus kernel_rfl
            focus kernel_rfl
            focus kernel_rfl
            focus exact (fun _ _ _ h => h)
            refine Or.inl ⟨?_, ?_⟩
            focus (go_simp; done)
            focus (intro w hSw; obtain ⟨g0, g1, g2, g3, g4, g5, g6, g7, o0, x0, x1, x2, x3, x4⟩ := HOpn.out _ hSw; (first | (go_simp; done) | (go_simp; with_reducible rfl)))
            focus assumption
            (try simp only [Act.put, List.setIfInBounds_toArray, List.set_cons_zero, List.set_cons_succ])
            refine' wpAnyH_take (i := 12) (v := _) ?_ ?_ ?_ ?_ ?_ ?_ ?_ ?_
            rotate_left 2
            focus (simp only [List.getElem?_toArray, List.getElem?_cons_succ, List.getElem?_cons_zero]; rfl)
            focus kernel_rfl
            focus kernel_rfl
            focus kernel_rfl
            focus exact (fun _ _ _ h => h)
            refine Or.inl ⟨?_, ?_⟩
            focus (go_simp; done)
            focus (intro w hSw; obtain ⟨g0, g1, g2, g3, g4, g5, g6, g7, o0, x0, x1, x2, x3, x4⟩ := HOpn.out _ hSw; (first | (go_simp; done) | (go_simp; with_reducible rfl)))
            focus assumption
            (try simp only [Act.put, List.setIfInBounds_toArray, List.set_cons_zero, List.set_cons_succ])
            refine' wpAnyH_take (i := 13) (v := _) ?_ ?_ ?_ ?_ ?_ ?_ ?_ ?_
            rotate_left 2
            focus (simp only [List.getElem?_toArray, List.getElem?_cons_succ, List.getElem?_cons_zero]; rfl)
            focus kernel_rfl
            focus kernel_rfl
            focus kernel_rfl
            focus exact (fun _ _ _ h => h)
            refine Or.inl ⟨?_, ?_⟩
            focus (go_simp; done)
            focus (intro w hSw; obtain ⟨g0, g1, g2, g3, g4, g5, g6, g7, o0, x0, x1, x2, x3, x4⟩ := HOpn.out _ hSw; (first | (go_simp; done) | (go_simp; with_reducible rfl)))
            focus assumption
            (try simp only [Act.put, List.setIfInBounds_toArray, List.set_cons_zero, List.set_cons_succ])
            refine' wpAnyH_take (i := 14) (v := _) ?_ ?_ ?_ ?_ ?_ ?_ ?_ ?_
            rotate_left 2
            focus (simp only [List.getElem?_toArray, List.getElem?_cons_succ, List.getElem?_cons_zero]; rfl)
            focus kernel_rfl
            focus kernel_rfl
            focus kernel_rfl
            focus exact (fun _ _ _ h => h)
            refine Or.inl ⟨?_, ?_⟩
            focus (go_simp; done)
            focus (intro w hSw; obtain ⟨g0, g1, g2, g3, g4, g5, g6, g7, o0, x0, x1, x2, x3, x4⟩ := HOpn.out _ hSw; (first | (go_simp; done) | (go_simp; with_reducible rfl)))
            focus assumption
            (try simp only [Act.put, List.setIfInBounds_toArray, List.set_cons_zero, List.set_cons_succ])
            refine' wpAnyH_take (i := 15) (v := _) ?_ ?_ ?_ ?_ ?_ ?_ ?_ ?_
            rotate_left 2
            focus (simp only [List.getElem?_toArray, List.getElem?_cons_succ, List.getElem?_cons_zero]; rfl)
            focus kernel_rfl
            focus kernel_rfl
            focus kernel_rfl
            focus exact (fun _ _ _ h => h)
            refine Or.inl ⟨?_, ?_⟩
            focus (go_simp; done)
            focus (intro w hSw; obtain ⟨g0, g1, g2, g3, g4, g5, g6, g7, o0, x0, x1, x2, x3, x4⟩ := HOpn.out _ hSw; (first | (go_simp; done) | (go_simp; with_reducible rfl)))
            focus assumption
            (try simp only [Act.put, List.setIfInBounds_toArray, List.set_cons_zero, List.set_cons_succ])
            refine' wpAnyH_take (i := 16) (v := _) ?_ ?_ ?_ ?_ ?_ ?_ ?_ ?_
            rotate_left 2
            focus (simp only [List.getElem?_toArray, List.getElem?_cons_succ, List.getElem?_cons_zero]; rfl)
            focus kernel_rfl
            focus kernel_rfl
            focus kernel_rfl
            focus exact (fun _ _ _ h => h)
            refine Or.inl ⟨?_, ?_⟩
            focus (go_simp; done)
            focus (intro w hSw; obtain ⟨g0, g1, g2, g3, g4, g5, g6, g7, o0, x0, x1, x2, x3, x4⟩ := HOpn.out _ hSw; (first | (go_simp; done) | (go_simp; with_reducible rfl)))
            focus assumption
            (try simp only [Act.put, List.setIfInBounds_toArray, List.set_cons_zero, List.set_cons_succ])
            refine' wpAnyH_take (i := 17) (v := undef) ?_ ?_ ?_ ?_ ?_ ?_ ?_ ?_
            rotate_left 1
            focus (simp only [List.getElem?_toArray, List.getElem?_cons_succ, List.getElem?_cons_zero]; rfl)
            focus kernel_rfl
            focus kernel_rfl
            focus kernel_rfl
            focus exact (fun _ _ _ h => h)
            refine Or.inr ⟨?_, rfl⟩
            focus (go_simp; done)
            focus assumption
            (try simp only [Act.put, List.setIfInBounds_toArray, List.set_cons_zero, List.set_cons_succ])
            refine' wpAnyH_take (i := 18) (v := undef) ?_ ?_ ?_ ?_ ?_ ?_ ?_ ?_
            rotate_left 1
            focus (simp only [List.getElem?_toArray, List.getElem?_cons_succ, List.getElem?_cons_zero]; rfl)
            focus kernel_rfl
            focus kernel_rfl
            focus kernel_rfl
            focus exact (fun _ _ _ h => h)
            refine Or.inr ⟨?_, rfl⟩
            focus (go_simp; done)
            focus assumption
            (try simp only [Act.put, List.setIfInBounds_toArray, List.set_cons_zero, List.set_cons_succ])
            refine' wpAnyH_take (i := 19) (v := _) ?_ ?_ ?_ ?_ ?_ ?_ ?_ ?_
            rotate_left 2
            focus (simp only [List.getElem?_toArray, List.getElem?_cons_succ, List.getElem?_cons_zero]; rfl)
            focus kernel_rfl
            focus kernel_rfl
            focus kernel_rfl
            focus exact (fun _ _ _ h => h)
            refine Or.inl ⟨?_, ?_⟩
            focus (go_simp; done)
            focus (intro w hSw; obtain ⟨g0, g1, g2, g3, g4, g5, g6, g7, o0, x0, x1, x2, x3, x4⟩ := HOpn.out _ hSw; (first | (go_simp; done) | (go_simp; with_reducible rfl)))
            focus assumption
            (try simp only [Act.put, List.setIfInBounds_toArray, List.set_cons_zero, List.set_cons_succ])
            refine' wpAnyH_take (i := 20) (v := _) ?_ ?_ ?_ ?_ ?_ ?_ ?_ ?_
            rotate_left 2
            focus (simp only [List.getElem?_toArray, List.getElem?_cons_succ, List.getElem?_cons_zero]; rfl)
            focus kernel_rfl
            focus kernel_rfl
            focus kernel_rfl
            focus exact (fun _ _ _ h => h)
            refine Or.inl ⟨?_, ?_⟩
            focus (go_simp; done)
            focus (intro w hSw; obtain ⟨g0, g1, g2, g3, g4, g5, g6, g7, o0, x0, x1, x2, x3, x4⟩ := HOpn.out _ hSw; (first | (go_simp; done) | (go_simp; with_reducible rfl)))
            focus assumption
            (try simp only [Act.put, List.setIfInBounds_toArray, List.set_cons_zero, List.set_cons_succ])
            refine' wpAnyH_take (i := 21) (v := _) ?_ ?_ ?_ ?_ ?_ ?_ ?_ ?_
            rotate_left 2
            focus (simp only [List.getElem?_toArray, List.getElem?_cons_succ, List.getElem?_cons_zero]; rfl)
            focus kernel_rfl
            focus kernel_rfl
            focus kernel_rfl
            focus exact (fun _ _ _ h => h)
            refine Or.inl ⟨?_, ?_⟩
            focus (go_simp; done)
            focus (intro w hSw; obtain ⟨g0, g1, g2, g3, g4, g5, g6, g7, o0, x0, x1, x2, x3, x4⟩ := HOpn.out _ hSw; (first | (go_simp; done) | (go_simp; with_reducible rfl)))
            focus assumption
            (try simp only [Act.put, List.setIfInBounds_toArray, List.set_cons_zero, List.set_cons_succ])
            refine' wpAnyH_take (i := 22) (v := _) ?_ ?_ ?_ ?_ ?_ ?_ ?_ ?_
            rotate_left 2
            focus (simp only [List.getElem?_toArray, List.getElem?_cons_succ, List.getElem?_cons_zero]; rfl)
            focus kernel_rfl
            focus kernel_rfl
            focus kernel_rfl
            focus exact (fun _ _ _ h => h)
            refine Or.inl ⟨?_, ?_⟩
            focus (go_simp; done)
            focus (intro w hSw; obtain ⟨g0, g1, g2, g3, g4, g5, g6, g7, o0, x0, x1, x2, x3, x4⟩ := HOpn.out _ hSw; (first | (go_simp; done) | (go_simp; with_reducible rfl)))
            focus assumption
            (try simp only [Act.put, List.setIfInBounds_toArray, List.set_cons_zero, List.set_cons_succ])
            refine' wpAnyH_take (i := 23) (v := _) ?_ ?_ ?_ ?_ ?_ ?_ ?_ ?_
            rotate_left 2
            focus (simp only [List.getElem?_toArray, List.getElem?_cons_succ, List.getElem?_cons_zero]; rfl)
            focus kernel_rfl
            focus kernel_rfl
            focus kernel_rfl
            focus exact (fun _ _ _ h => h)
            refine Or.inl ⟨?_, ?_⟩
            focus (go_simp; done)
            focus (intro w hSw; obtain ⟨g0, g1, g2, g3, g4, g5, g6, g7, o0, x0, x1, x2, x3, x4⟩ := HOpn.out _ hSw; (first | (go_simp; done) | (go_simp; with_reducible rfl)))
            focus assumption
            (try simp only [Act.put, List.setIfInBounds_toArray, List.set_cons_zero, List.set_cons_succ])
            refine' wpAnyH_take (i := 24) (v := _) ?_ ?_ ?_ ?_ ?_ ?_ ?_ ?_
            rotate_left 2
            focus (simp only [List.getElem?_toArray, List.getElem?_cons_succ, List.getElem?_cons_zero]; rfl)
            focus kernel_rfl
            focus kernel_rfl
            focus kernel_rfl
            focus exact (fun _ _ _ h => h)
            refine Or.inl ⟨?_, ?_⟩
            focus (go_simp; done)
            focus (intro w hSw; obtain ⟨g0, g1, g2, g3, g4, g5, g6, g7, o0, x0, x1, x2, x3, x4⟩ := HOpn.out _ hSw; (first | (go_simp; done) | (go_simp; with_reducible rfl)))
            focus assumption
            (try simp only [Act.put, List.setIfInBounds_toArray, List.set_cons_zero, List.set_cons_succ])
            refine' wpAnyH_take (i := 25) (v := _) ?_ ?_ ?_ ?_ ?_ ?_ ?_ ?_
            rotate_left 2
            focus (simp only [List.getElem?_toArray, List.getElem?_cons_succ, List.getElem?_cons_zero]; rfl)
            focus kernel_rfl
            focus kernel_rfl
            focus kernel_rfl
            focus exact (fun _ _ _ h => h)
            refine Or.inl ⟨?_, ?_⟩
            focus (go_simp; done)
            focus (intro w hSw; obtain ⟨g0, g1, g2, g3, g4, g5, g6, g7, o0, x0, x1, x2, x3, x4⟩ := HOpn.out _ hSw; (first | (go_simp; done) | (go_simp; with_reducible rfl)))
            focus assumption
            (try simp only [Act.put, List.setIfInBounds_toArray, List.set_cons_zero, List.set_cons_succ])
            refine' wpAnyH_take (i := 26) (v := _) ?_ ?_ ?_ ?_ ?_ ?_ ?_ ?_
            rotate_left 2
            focus (simp only [List.getElem?_toArray, List.getElem?_cons_succ, List.getElem?_cons_zero]; rfl)
            focus kernel_rfl
            focus kernel_rfl
            focus kernel_rfl
            focus exact (fun _ _ _ h => h)
            refine Or.inl ⟨?_, ?_⟩
            focus (go_simp; done)
            focus (intro w hSw; obtain ⟨g0, g1, g2, g3, g4, g5, g6, g7, o0, x0, x1, x2, x3, x4⟩ := HOpn.out _ hSw; (first | (go_simp; done) | (go_simp; with_reducible rfl)))
            focus assumption
            (try simp only [Act.put, List.setIfInBounds_toArray, List.set_cons_zero, List.set_cons_succ])
            refine' wpAnyH_take (i := 27) (v := _) ?_ ?_ ?_ ?_ ?_ ?_ ?_ ?_
            rotate_left 2
            focus (simp only [List.getElem?_toArray, List.getElem?_cons_succ, List.getElem?_cons_zero]; rfl)
            focus kernel_rfl
            focus kernel_rfl
            focus kernel_rfl
            focus exact (fun _ _ _ h => h)
            refine Or.inl ⟨?_, ?_⟩
            focus (go_simp; done)
            focus (intro w hSw; obtain ⟨g0, g1, g2, g3, g4, g5, g6, g7, o0, x0, x1, x2, x3, x4⟩ := HOpn.out _ hSw; (first | (go_simp; done) | (go_simp; with_reducible rfl)))
            focus assumption
            (try simp only [Act.put, List.setIfInBounds_toArray, List.set_cons_zero, List.set_cons_succ])
            refine' wpAnyH_take (i := 28) (v := _) ?_ ?_ ?_ ?_ ?_ ?_ ?_ ?_
            rotate_left 2
            focus (simp only [List.getElem?_toArray, List.getElem?_cons_succ, List.getElem?_cons_zero]; rfl)
            focus kernel_rfl
            focus kernel_rfl
            focus kernel_rfl
            focus exact (fun _ _ _ h => h)
            refine Or.inl ⟨?_, ?_⟩
            focus (go_simp; done)
            focus (intro w hSw; obtain ⟨g0, g1, g2, g3, g4, g5, g6, g7, o0, x0, x1, x2, x3, x4⟩ := HOpn.out _ hSw; (first | (go_simp; done) | (go_simp; with_reducible rfl)))
            focus assumption
            (try simp only [Act.put, List.setIfInBounds_toArray, List.set_cons_zero, List.set_cons_succ])
            refine' wpAnyH_take (i := 29) (v := _) ?_ ?_ ?_ ?_ ?_ ?_ ?_ ?_
            rotate_left 2
            focus (simp only [List.getElem?_toArray, List.getElem?_cons_succ, List.getElem?_cons_zero]; rfl)
            focus kernel_rfl
            focus kernel_rfl
            focus kernel_rfl
            focus exact (fun _ _ _ h => h)
            refine Or.inl ⟨?_, ?_⟩
            focus (go_simp; done)
            focus (intro w hSw; obtain ⟨g0, g1, g2, g3, g4, g5, g6, g7, o0, x0, x1, x2, x3, x4⟩ := HOpn.out _ hSw; (first | (go_simp; done) | (go_simp; with_reducible rfl)))
            focus assumption
            (try simp only [Act.put, List.setIfInBounds_toArray, List.set_cons_zero, List.set_cons_succ])
            refine' wpAnyH_take (i := 30) (v := undef) ?_ ?_ ?_ ?_ ?_ ?_ ?_ ?_
            rotate_left 1
            focus (simp only [List.getElem?_toArray, List.getElem?_cons_succ, List.getElem?_cons_zero]; rfl)
            focus kernel_rfl
            focus kernel_rfl
            focus kernel_rfl
            focus exact (fun _ _ _ h => h)
            refine Or.inr ⟨?_, rfl⟩
            focus (go_simp; done)
            focus assumption
            (try simp only [Act.put, List.setIfInBounds_toArray, List.set_cons_zero, List.set_cons_succ])
            refine' wpAnyH_take (i := 31) (v := undef) ?_ ?_ ?_ ?_ ?_ ?_ ?_ ?_
            rotate_left 1
            focus (simp only [List.getElem?_toArray, List.getElem?_cons_succ, List.getElem?_cons_zero]; rfl)
            focus kernel_rfl
            focus kernel_rfl
            focus kernel_rfl
            focus exact (fun _ _ _ h => h)
            refine Or.inr ⟨?_, rfl⟩
            focus (go_simp; done)
            focus assumption
            (try simp only [Act.put, List.setIfInBounds_toArray, List.set_cons_zero, List.set_cons_succ])
            refine' wpAnyH_take (i := 32) (v := undef) ?_ ?_ ?_ ?_ ?_ ?_ ?_ ?_
            rotate_left 1
            focus (simp only [List.getElem?_toArray, List.getElem?_cons_succ, List.getElem?_cons_zero]; rfl)
            focus kernel_rfl
            focus kernel_rfl
            focus kernel_rfl
            focus exact (fun _ _ _ h => h)
            refine Or.inr ⟨?_, rfl⟩
            focus (go_simp; done)
            focus assumption
            (try simp only [Act.put, List.setIfInBounds_toArray, List.set_cons_zero, List.set_cons_succ])
            refine' wpAnyH_take (i := 33) (v := undef) ?_ ?_ ?_ ?_ ?_ ?_ ?_ ?_
            rotate_left 1
            focus (simp only [List.getElem?_toArray, List.getElem?_cons_succ, List.getElem?_cons_zero]; rfl)
            focus kernel_rfl
            focus kernel_rfl
            focus kernel_rfl
            focus exact (fun _ _ _ h => h)
            refine Or.inr ⟨?_, rfl⟩
            focus (go_simp; done)
            focus assumption
            (try simp only [Act.put, List.setIfInBounds_toArray, List.set_cons_zero, List.set_cons_succ])
            refine' wpAnyH_take (i := 34) (v := undef) ?_ ?_ ?_ ?_ ?_ ?_ ?_ ?_
            rotate_left 1
            focus (simp only [List.getElem?_toArray, List.getElem?_cons_succ, List.getElem?_cons_zero]; rfl)
            focus kernel_rfl
            focus kernel_rfl
            focus kernel_rfl
            focus exact (fun _ _ _ h => h)
            refine Or.inr ⟨?_, rfl⟩
            focus (go_simp; done)
            focus assumption
            (try simp only [Act.put, List.setIfInBounds_toArray, List.set_cons_zero, List.set_cons_succ])
            refine' wpAnyH_take (i := 35) (v := undef) ?_ ?_ ?_ ?_ ?_ ?_ ?_ ?_
            rotate_left 1
            focus (simp only [List.getElem?_toArray, List.getElem?_cons_succ, List.getElem?_cons_zero]; rfl)
            focus kernel_rfl
            focus kernel_rfl
            focus kernel_rfl
            focus exact (fun _ _ _ h => h)
            refine Or.inr ⟨?_, rfl⟩
            focus (go_simp; done)
            focus assumption
            (try simp only [Act.put, List.setIfInBounds_toArray, List.set_cons_zero, List.set_cons_succ])
            refine' wpAnyH_take (i := 36) (v := _) ?_ ?_ ?_ ?_ ?_ ?_ ?_ ?_
            rotate_left 2
            focus (simp only [List.getElem?_toArray, List.getElem?_cons_succ, List.getElem?_cons_zero]; rfl)
            focus kernel_rfl
            focus kernel_rfl
            focus kernel_rfl
            focus exact (fun _ _ _ h => h)
            refine Or.inl ⟨?_, ?_⟩
            focus (go_simp; done)
            focus (intro w hSw; obtain ⟨g0, g1, g2, g3, g4, g5, g6, g7, o0, x0, x1, x2, x3, x4⟩ := HOpn.out _ hSw; (first | (go_simp; done) | (go_simp; with_reducible rfl)))
            focus assumption
            (try simp only [Act.put, List.setIfInBounds_toArray, List.set_cons_zero, List.set_cons_succ])
            refine' wpAnyH_take (i := 37) (v := _) ?_ ?_ ?_ ?_ ?_ ?_ ?_ ?_
            rotate_left 2
            focus (simp only [List.getElem?_toArray, List.getElem?_cons_succ, List.getElem?_cons_zero]; rfl)
            focus kernel_rfl
            focus kernel_rfl
            focus kernel_rfl
            focus exact (fun _ _ _ h => h)
            refine Or.inl ⟨?_, ?_⟩
            focus (go_simp; done)
            focus (intro w hSw; obtain ⟨g0, g1, g2, g3, g4, g5, g6, g7, o0, x0, x1, x2, x3, x4⟩ := HOpn.out _ hSw; (first | (go_simp; done) | (go_simp; with_reducible rfl)))
            focus assumption
            (try simp only [Act.put, List.setIfInBounds_toArray, List.set_cons_zero, List.set_cons_succ])
            refine wpAnyH_done (by kernel_rfl) ?_ _
            go_wp2
            go_roundw
            case rel => exact ⟨k + 1, by omega, by first | rfl | go_num, Lib.hid hHeld, Lib.hid fun j hj => by rcases Nat.lt_succ_iff_lt_or_eq.1 hj with h | rfl; exact HF.out j h; exact HX.out⟩
            case measure => simp [intOf]; omega
    · have hlt' : ¬ (k : Int) < no := by omega
      obtain rfl : no = k := by omega
      have HOps := Lib.hid (show Gr.opsOk V na b.ops = true from all_true fun j hj => HF.out j (by rw [← HNo.out]; exact hj))
      clear HF
      have o2 := HS.out.2.2.cell 2
      go_wp2
      go_loopw [6] (fun i wr' => ∃ q : Nat, q ≤ nn ∧ i = .int .i64 q ∧ Hid (GBx w w.heap.size (w.heap.size + 1) #[.slice Ai ni ci, .int .i64 V, .int .i64 K, .slice Aa na ca, .int .i64 S, .slice Ab nb cb, .slice Ap np cp, .slice Ah nh ch] #[.slice Ao no co, .int .i64 cd, .slice An nn cn] wr') ∧ Hid (∀ j, j < q → Gr.nxAt nb (b.next.getD j 0) = true)) (fun i _ => nn - (intOf i).toNat)
      case atStart => exact ⟨0, Nat.zero_le _, rfl, HS, Lib.hid fun j hj => absurd hj (Nat.not_lt_zero _)⟩
      case round =>
        obtain ⟨q, hq, rfl, HT, HQ⟩ := hrel
        clear HS o0 o2
        have g5 := HT.out.2.1.cell 5
        have o2 := HT.out.2.2.cell 2
        by_cases hlt : q < nn
        · have hlt' : (q : Int) < nn := by omega
          have hlt0 : (0 : Int) ≤ (q : Int) := by omega
          obtain ⟨bbk, off, rfl, hbb, hx0⟩ := HNx.out q hlt
          replace hx0 := (HT.out.1.cell (p := ⟨bbk, off + q, none⟩) hbb).trans hx0
          have HAt := Lib.hid (nx_at nb (b.next.getD q 0))
          obtain ⟨x, hx⟩ : ∃ x, b.next.getD q 0 = x := ⟨_, rfl⟩
          have HXx := Lib.hid hx
          rw [hx] at hx0 HAt
          clear hx
          by_cases h1 : x < 1
          · have e1 : decide (x < 1) = true := by simp [h1]
            have HBad := Lib.hid (show Gr.blkOk V na nb b = false from blkOk_next (nxOk_bad (by rw [HNn.out]; exact hlt) (by rw [HXx.out, HAt.out]; simp; omega)))
            go_wp2
            go_quiet (fail)
            go_wp2
            go_ret
            exact ⟨ret_bool (HR.out.symm.trans HBad.out).symm, HT.out.1.trans (below_drewN _ _ _)⟩
          · have e1 : decide (x < 1) = false := by simp; omega
            by_cases h2 : (nb : Int) ≤ x
            · have e2 : decide ((nb : Int) ≤ x) = true := by simp [h2]
              have HBad := Lib.hid (show Gr.blkOk V na nb b = false from blkOk_next (nxOk_bad (by rw [HNn.out]; exact hlt) (by rw [HXx.out, HAt.out]; simp; omega)))
              go_wp2
              go_quiet (fail)
              go_wp2
              go_ret
              exact ⟨ret_bool (HR.out.symm.trans HBad.out).symm, HT.out.1.trans (below_drewN _ _ _)⟩
            · have e2 : decide ((nb : Int) ≤ x) = false := by simp; omega
              have HX := Lib.hid (show Gr.nxAt nb (b.next.getD q 0) = true by rw [HXx.out, HAt.out]; simp; omega)
              go_wp2
              go_quiet (fail)
              go_wp2
              go_roundw
              case rel => exact ⟨q + 1, by omega, by first | rfl | go_num, Lib.hid (HT.out.below (below_drewN _ _ _)), Lib.hid fun j hj => by rcases Nat.lt_succ_iff_lt_or_eq.1 hj with h | rfl; exact HQ.out j h; exact HX.out⟩
              case measure => simp [intOf]; omega
        · have hlt' : ¬ (q : Int) < nn := by omega
          obtain rfl : q = nn := by omega
          have HAll := Lib.hid (show ((List.range q).all fun k => Gr.nxAt nb (b.next.getD k 0)) = true from all_true HQ.out)
          have HFin := Lib.hid (show Gr.blkOk V na nb b = (if q = 2 then decide (b.next.getD 0 0 ≠ b.next.getD 1 0) && Gr.inn cd V else decide (q < 2) && Gr.zer cd) by unfold Gr.blkOk Gr.nxOk; rw [HOps.out, HNn.out, HAll.out, HCd.out]; rfl)
          have o1 := HT.out.2.2.cell 1
          have g1 := HT.out.2.1.cell 1
          clear HQ HAll HOps
          by_cases h2 : q = 2
          · subst h2
            obtain ⟨b0, of0, rfl, hl0, hx0⟩ := HNx.out 0 (by omega)
            obtain ⟨b1, of1, e1, hl1, hx1⟩ := HNx.out 1 (by omega)
            injection e1 with e1
            injection e1 with e1 e2 e3
            subst e1 e2
            replace hx0 := (HT.out.1.cell (p := ⟨b0, of0 + 0, none⟩) hl0).trans hx0
            replace hx1 := (HT.out.1.cell (p := ⟨b0, of0 + 1, none⟩) hl0).trans hx1
            rw [Nat.add_zero] at hx0
            generalize b.next.getD 0 0 = x0 at *
            generalize b.next.getD 1 0 = x1 at *
            clear HNx
            cases h3 : Gr.inn cd V
            all_goals
              have H3 := Lib.hid h3
              clear h3
              by_cases h4 : x0 = x1
              all_goals
                first | (have e4 : (x0 != x1) = false := by simp [h4]; done) | (have e4 : (x0 != x1) = true := by simp [h4])
                have H4 := Lib.hid h4
                clear h4
                go_wp2
                go_quiet ((go_at_call 49; exact Calls.quiet_of_same (rin_any cd V _ H3.out _)))
                go_wp2
                go_ret
                exact ⟨ret_bool (by rw [← HR.out, HFin.out, H3.out]; simp [H4.out]), HT.out.1.trans (below_drewN _ _ _)⟩
          · have e2 : ((q : Int) == 2) = false := by simp; omega
            by_cases h3 : q < 2
            · by_cases h4 : cd = 0
              all_goals
                first | (have e4 : (cd == 0) = false := by simp [h4]; done) | (have e4 : (cd == 0) = true := by simp [h4])
                have H4 := Lib.hid h4
                have HFF := Lib.hid (show Gr.blkOk V na nb b = (cd == 0) by rw [HFin.out, if_neg h2, decide_eq_true h3]; simp [Gr.zer, h4, e4])
                clear h4
                obtain h5 | h5 : q = 0 ∨ q = 1 := by omega
                all_goals
                  subst h5
                  clear h2 h3 e2
                  go_wp2
                  go_ret
                  exact ⟨ret_bool (by rw [← HR.out, HFF.out, e4]), HT.out.1⟩
            · have e0 : ((q : Int) == 0) = false := by simp; omega
              have e1 : ((q : Int) == 1) = false := by simp; omega
              have HFF := Lib.hid (show Gr.blkOk V na nb b = false by rw [HFin.out, if_neg h2, decide_eq_false h3]; rfl)
              clear h2 h3
              go_wp2
              go_ret
              exact ⟨ret_bool (by rw [← HR.out, HFF.out]), HT.out.1⟩
end Go.Proofs.Ytojnhdkclabkgaa
