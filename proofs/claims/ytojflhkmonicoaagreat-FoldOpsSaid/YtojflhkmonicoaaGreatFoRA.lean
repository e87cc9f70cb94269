/- The specification of layer 14: what is known, and of what a variable is a copy. No condition. The specification of layer 14: what is forgotten. No condition. -/
import Derived.Test.YtojflhkmonicoaaGreatFoP
import Derived.Test.YtojflhkmonicoaaGreatStLast
import Derived.Deep.DeepCutAuto
import Derived.Deep.CutBlock
namespace Go.Proofs.YtojflhkmonicoaaGreat
open Go.RowKit
set_option linter.unusedVariables false
set_option linter.unusedSimpArgs false
attribute [local go_sem] y_undef
/-- The specification's facts in memory: block Bf, rows K, W, O. -/
structure Rf (V Bf K W O : Nat) (s : Fo.S) (fw : Nat → Int) (u : World) : Prop where
  fb : Bk u Bf 89 #[.slice (some ⟨K, 0, none⟩) V V, .slice (some ⟨W, 0, none⟩) V V, .slice (some ⟨O, 0, none⟩) V V]
  kn : Bk u K 4 (slRow V fun v => .bool (s.wd (v : Int)).isSome)
  wd : Bk u W 3 (slRow V fun v => .int .i64 (fw v))
  cp : Bk u O 3 (slRow V fun v => .int .i64 ((s.cp (v : Int)).getD (-1)))
  wv : ∀ (v : Nat) (n : Int), v < V → s.wd (v : Int) = some n → fw v = n
  ap : Bf ≠ K ∧ Bf ≠ W ∧ Bf ≠ O ∧ K ≠ W ∧ K ≠ O ∧ W ≠ O
theorem Rf.below {V Bf K W O : Nat} {s : Fo.S} {fw : Nat → Int} {u u' : World} (h : Rf V Bf K W O s fw u) (hb : Below u.heap.size u u') : Rf V Bf K W O s fw u' := ⟨h.fb.below hb, h.kn.below hb, h.wd.below hb, h.cp.below hb, h.wv, h.ap⟩
set_option maxHeartbeats 2000000 in
theorem ruse_any (V Bf K W O : Nat) (s : Fo.S) (fw : Nat → Int) (v : Nat) (hv : v < V) (hV : V ≤ 1000) (hok : Fo.Ok V s) (w : World) (h : Rf V Bf K W O s fw w) :
    Calls Tryz.prog 47 #[.pointer (some ⟨Bf, 0, none⟩), .int .i64 (v : Int)] w fun e w' => e = .returned (.int .i64 (Fo.use s v)) ∧ w' = w := by
  have b2 := h.fb.cell 2
  have c0 := (h.cp.cell v).trans (slRow_cell _ _ hv)
  have hlt : (v : Int) < V := by omega
  have hlt0 : (0 : Int) ≤ (v : Int) := by omega
  unfold Fo.use
  cases hc : s.cp (v : Int) with
  | none =>
    rw [hc] at c0
    simp only [Option.getD_none] at c0 ⊢
    have hm : ¬ ((0 : Int) ≤ -1) := by omega
    clear hc h
    go_enter Tryz.func47, Tryz.ntmps47
    go_wp2
    go_ret
    exact ⟨rfl, rfl⟩
  | some x =>
    rw [hc] at c0
    simp only [Option.getD_some] at c0 ⊢
    have hx := (hok.cp _ _ hc).1
    clear hc h
    go_enter Tryz.func47, Tryz.ntmps47
    go_wp2
    go_ret
    exact ⟨rfl, rfl⟩
end Go.Proofs.YtojflhkmonicoaaGreat
namespace Go.Proofs.YtojflhkmonicoaaGreat
open Go.RowKit
set_option linter.unusedVariables false
set_option linter.unusedSimpArgs false
attribute [local go_sem] y_undef
theorem slRow_congr {n : Nat} {f f' : Nat → Value} (h : ∀ v, v < n → f v = f' v) : slRow n f = slRow n f' := by
  unfold slRow
  congr 1
  apply List.map_congr_left
  intro v hv
  exact h v (List.mem_range.1 hv)
/-- The row of copies, behind k rounds of forget. -/
def ogz (s : Fo.S) (d k : Nat) (v : Nat) : Int := if v = d then -1 else if v < k ∧ s.cp (v : Int) = some (d : Int) then -1 else (s.cp (v : Int)).getD (-1)
theorem ogz_step {s : Fo.S} {V : Int} (hok : Fo.Ok V s) (d k v : Nat) : ogz s d (k + 1) v = if v = k then (if ogz s d k k = (d : Int) then -1 else ogz s d k k) else ogz s d k v := by
  have hne : ¬ (-1 : Int) = (d : Int) := by omega
  unfold ogz
  by_cases e : v = k
  · subst e
    rw [if_pos rfl]
    by_cases hd : v = d
    · simp only [if_pos hd, if_neg hne]
    · simp only [if_neg hd, Nat.lt_irrefl, false_and, if_false, Nat.lt_succ_self, true_and]
      by_cases hc : s.cp (v : Int) = some (d : Int)
      · rw [if_pos hc, if_pos (by rw [hc]; rfl)]
      · rw [if_neg hc]
        by_cases h2 : (s.cp (v : Int)).getD (-1) = (d : Int)
        · exfalso
          cases hx : s.cp (v : Int) with
          | none => rw [hx] at h2; exact hne h2
          | some y => rw [hx] at h2 hc; exact hc (by rw [show y = (d : Int) from h2])
        · rw [if_neg h2]
  · rw [if_neg e]
    by_cases hd : v = d
    · rw [if_pos hd, if_pos hd]
    · rw [if_neg hd, if_neg hd]
      have : (v < k + 1 ∧ s.cp (v : Int) = some (d : Int)) ↔ (v < k ∧ s.cp (v : Int) = some (d : Int)) := by constructor <;> rintro ⟨h, h'⟩ <;> exact ⟨by omega, h'⟩
      simp only [this]
theorem ogz_end {s : Fo.S} {V d v : Nat} (hv : v < V) : ogz s d V v = (Fo.cut s.cp (d : Int) (v : Int)).getD (-1) := by
  unfold ogz Fo.cut
  by_cases hd : v = d
  · subst hd; simp
  · have : ¬ (v : Int) = (d : Int) := by omega
    simp only [if_neg hd, this, false_or, hv, true_and]
    by_cases hc : s.cp (v : Int) = some (d : Int)
    · rw [if_pos hc, if_pos hc]; rfl
    · rw [if_neg hc, if_neg hc]
theorem kn_end {s : Fo.S} {d v : Nat} : (if v = d then false else (s.wd (v : Int)).isSome) = (Fo.upd s.wd (d : Int) none (v : Int)).isSome := by
  unfold Fo.upd
  by_cases hd : v = d
  · subst hd; simp
  · have : ¬ (v : Int) = (d : Int) := by omega
    rw [if_neg hd, if_neg this]
/-- The facts while d is forgotten. -/
structure Rg (V Bf Kb Wb Ob : Nat) (s : Fo.S) (fw : Nat → Int) (d k : Nat) (w u : World) : Prop where
  mu : Mu Kb Ob w u
  fb : Bk u Bf 89 #[.slice (some ⟨Kb, 0, none⟩) V V, .slice (some ⟨Wb, 0, none⟩) V V, .slice (some ⟨Ob, 0, none⟩) V V]
  kn : Bk u Kb 4 (slRow V fun v => .bool (if v = d then false else (s.wd (v : Int)).isSome))
  wd : Bk u Wb 3 (slRow V fun v => .int .i64 (fw v))
  cp : Bk u Ob 3 (slRow V fun v => .int .i64 (ogz s d k v))
theorem Rg.below {V Bf Kb Wb Ob : Nat} {s : Fo.S} {fw : Nat → Int} {d k : Nat} {w u u' : World} (h : Rg V Bf Kb Wb Ob s fw d k w u) (hb : Below u.heap.size u u') : Rg V Bf Kb Wb Ob s fw d k w u' := ⟨h.mu.trans (Mu.of_below hb), h.fb.below hb, h.kn.below hb, h.wd.below hb, h.cp.below hb⟩
theorem Rg.same {V Bf Kb Wb Ob : Nat} {s : Fo.S} {fw : Nat → Int} {d k : Nat} {w u : World} (h : Rg V Bf Kb Wb Ob s fw d k w u) (he : ∀ v, v < V → ogz s d (k + 1) v = ogz s d k v) : Rg V Bf Kb Wb Ob s fw d (k + 1) w u :=
  ⟨h.mu, h.fb, h.kn, h.wd, by
    have := h.cp
    rw [slRow_congr (fun v hv => by rw [← he v hv])] at this
    exact this⟩
theorem Rg.neg {V Bf Kb Wb Ob : Nat} {s : Fo.S} {fw : Nat → Int} {d k : Nat} {w u : World} (h : Rg V Bf Kb Wb Ob s fw d k w u) (he : ∀ v, v < V → ogz s d (k + 1) v = if v = k then -1 else ogz s d k v) (a3 : Bf ≠ Ob) (a5 : Kb ≠ Ob) (a6 : Wb ≠ Ob) : Rg V Bf Kb Wb Ob s fw d (k + 1) w (u.setCell ⟨Ob, k, none⟩ (.int .i64 (-1))) := by
  have hB : Below 0 u _ := (Below.refl 0 u).setCell (p := ⟨Ob, k, none⟩) (Nat.zero_le _) (.int .i64 (-1))
  refine ⟨⟨hB.os.trans h.mu.os, hB.tape.trans h.mu.tape, hB.output.trans h.mu.output, by rw [World.size_setCell]; exact h.mu.size, fun j hj h1 h2 => (Below.heap_setCell _ _ _ j (by exact h2)).trans (h.mu.block j hj h1 h2)⟩, h.fb.far (p := ⟨Ob, k, none⟩) a3 _, h.kn.far (p := ⟨Ob, k, none⟩) a5 _, h.wd.far (p := ⟨Ob, k, none⟩) a6 _, ?_⟩
  have := h.cp.set k (.int .i64 (-1))
  rw [slRow_set V _ (fun v => .int .i64 (ogz s d (k + 1) v)) k (.int .i64 (-1)) (fun j hj => by simp only [he j hj]; by_cases e : j = k <;> simp [e])] at this
  exact this
theorem rg_new {V Bf Kb Wb Ob : Nat} {s : Fo.S} {fw : Nat → Int} {d : Nat} {w w1 : World} (h0 : Rf V Bf Kb Wb Ob s fw w) (hd : d < V) (hb : Below w.heap.size w w1) (h : Rf V Bf Kb Wb Ob s fw w1) : Rg V Bf Kb Wb Ob s fw d 0 w ((w1.setCell ⟨Kb, d, none⟩ (.bool false)).setCell ⟨Ob, d, none⟩ (.int .i64 (-1))) := by
  obtain ⟨a1, a2, a3, a4, a5, a6⟩ := h.ap
  have hB : Below 0 w1 _ := ((Below.refl 0 w1).setCell (p := ⟨Kb, d, none⟩) (Nat.zero_le _) (.bool false)).setCell (p := ⟨Ob, d, none⟩) (Nat.zero_le _) (.int .i64 (-1))
  refine ⟨⟨hB.os.trans hb.os, hB.tape.trans hb.tape, hB.output.trans hb.output, by rw [World.size_setCell, World.size_setCell]; exact hb.size, fun j hj h1 h2 => ?_⟩, ?_, ?_, ?_, ?_⟩
  · exact ((Below.heap_setCell _ _ _ j (by exact h2)).trans (Below.heap_setCell _ _ _ j (by exact h1))).trans (hb.block j hj)
  · exact (h.fb.far (p := ⟨Kb, d, none⟩) a1 _).far (p := ⟨Ob, d, none⟩) a3 _
  · have := (h.kn.set d (.bool false)).far (p := ⟨Ob, d, none⟩) (by exact a5) (.int .i64 (-1))
    rw [slRow_set V _ (fun v => .bool (if v = d then false else (s.wd (v : Int)).isSome)) d (.bool false) (fun j hj => by by_cases e : j = d <;> simp [e])] at this
    exact this
  · exact (h.wd.far (p := ⟨Kb, d, none⟩) (fun e => a4 e.symm) _).far (p := ⟨Ob, d, none⟩) a6 _
  · have := (h.cp.far (p := ⟨Kb, d, none⟩) (fun e => a5 e.symm) (.bool false)).set d (.int .i64 (-1))
    rw [slRow_set V _ (fun v => .int .i64 (ogz s d 0 v)) d (.int .i64 (-1)) (fun j hj => by unfold ogz; by_cases e : j = d <;> simp [e])] at this
    exact this
set_option maxHeartbeats 4000000 in
theorem rforget_any (V Bf Kb Wb Ob : Nat) (s : Fo.S) (fw : Nat → Int) (d : Nat) (hd : d < V) (hV : V ≤ 1000) (hok : Fo.Ok V s) (w : World) (h : Rf V Bf Kb Wb Ob s fw w) :
    Calls Tryz.prog 71 #[.pointer (some ⟨Bf, 0, none⟩), .int .i64 (d : Int)] w fun e w' => e = .returned (.tuple #[]) ∧ Rf V Bf Kb Wb Ob ⟨Fo.upd s.wd (d : Int) none, Fo.cut s.cp (d : Int)⟩ fw w' ∧ Mu Kb Ob w w' := by
  have HR := Lib.hid h
  have HOk := Lib.hid hok
  obtain ⟨a1, a2, a3, a4, a5, a6⟩ := h.ap
  have hlt : (d : Int) < V := by omega
  have hlt0 : (0 : Int) ≤ (d : Int) := by omega
  clear h hok
  go_enter Tryz.func71, Tryz.ntmps71
  go_upto_region 0 with fail
  refine wp_region_last (S := fun u : World => Bk u Bf 89 #[.slice (some ⟨Kb, 0, none⟩) V V, .slice (some ⟨Wb, 0, none⟩) V V, .slice (some ⟨Ob, 0, none⟩) V V]) 13 (by kernel_rfl) ?_ (fun hHeld => ?_)
  · exact HR.out.fb.below (below_drewN _ _ 1)
  have HD := Lib.hid (show Rf V Bf Kb Wb Ob s fw w.drew from HR.out.below (below_drewN _ w 1))
  refine' wpAnyL_take (i := 0) (v := _) ?_ ?_ ?_ ?_ ?_ ?_ ?_ ?_ ?_
  rotate_left 2; (simp only [gA, gB, gC]; rfl); kernel_rfl; kernel_rfl; kernel_rfl; kernel_rfl; exact fun _ _ _ h => h; refine Or.inl ⟨?_, ?_⟩; focus (go_simp; done)
  focus (intro w hSw; have b0 := hSw.cell 0; have b2 := hSw.cell 2; (go_simp <;> with_reducible rfl))
  assumption; (try simp only [Act.put, gD, gE, gF])
  refine' wpAnyL_take (i := 1) (v := _) ?_ ?_ ?_ ?_ ?_ ?_ ?_ ?_ ?_
  rotate_left 2; (simp only [gA, gB, gC]; rfl); kernel_rfl; kernel_rfl; kernel_rfl; kernel_rfl; exact fun _ _ _ h => h; refine Or.inl ⟨?_, ?_⟩; focus (go_simp; done)
  focus (intro w hSw; have b0 := hSw.cell 0; have b2 := hSw.cell 2; (go_simp <;> with_reducible rfl))
  assumption; (try simp only [Act.put, gD, gE, gF])
  refine' wpAnyL_take (i := 2) (v := _) ?_ ?_ ?_ ?_ ?_ ?_ ?_ ?_ ?_
  rotate_left 2; (simp only [gA, gB, gC]; rfl); kernel_rfl; kernel_rfl; kernel_rfl; kernel_rfl; exact fun _ _ _ h => h; refine Or.inl ⟨?_, ?_⟩; focus (go_simp; done)
  focus (intro w hSw; have b0 := hSw.cell 0; have b2 := hSw.cell 2; (go_simp <;> with_reducible rfl))
  assumption; (try simp only [Act.put, gD, gE, gF])
  refine' wpAnyL_take (i := 3) (v := _) ?_ ?_ ?_ ?_ ?_ ?_ ?_ ?_ ?_
  rotate_left 2; (simp only [gA, gB, gC]; rfl); kernel_rfl; kernel_rfl; kernel_rfl; kernel_rfl; exact fun _ _ _ h => h; refine Or.inl ⟨?_, ?_⟩; focus (go_simp; done)
  focus (intro w hSw; have b0 := hSw.cell 0; have b2 := hSw.cell 2; (go_simp <;> with_reducible rfl))
  assumption; (try simp only [Act.put, gD, gE, gF])
  refine' wpAnyL_take (i := 4) (v := _) ?_ ?_ ?_ ?_ ?_ ?_ ?_ ?_ ?_
  rotate_left 2; (simp only [gA, gB, gC]; rfl); kernel_rfl; kernel_rfl; kernel_rfl; kernel_rfl; exact fun _ _ _ h => h; refine Or.inl ⟨?_, ?_⟩; focus (go_simp; done)
  focus (intro w hSw; have b0 := hSw.cell 0; have b2 := hSw.cell 2; (go_simp <;> with_reducible rfl))
  assumption; (try simp only [Act.put, gD, gE, gF])
  refine' wpAnyL_take (i := 5) (v := _) ?_ ?_ ?_ ?_ ?_ ?_ ?_ ?_ ?_
  rotate_left 2; (simp only [gA, gB, gC]; rfl); kernel_rfl; kernel_rfl; kernel_rfl; kernel_rfl; exact fun _ _ _ h => h; refine Or.inl ⟨?_, ?_⟩; focus (go_simp; done)
  focus (intro w hSw; have b0 := hSw.cell 0; have b2 := hSw.cell 2; (go_simp <;> with_reducible rfl))
  assumption; (try simp only [Act.put, gD, gE, gF])
  refine' wpAnyL_take (i := 6) (v := _) ?_ ?_ ?_ ?_ ?_ ?_ ?_ ?_ ?_
  rotate_left 2; (simp only [gA, gB, gC]; rfl); kernel_rfl; kernel_rfl; kernel_rfl; kernel_rfl; exact fun _ _ _ h => h; refine Or.inl ⟨?_, ?_⟩; focus (go_simp; done)
  focus (intro w hSw; have b0 := hSw.cell 0; have b2 := hSw.cell 2; (go_simp <;> with_reducible rfl))
  assumption; (try simp only [Act.put, gD, gE, gF])
  refine' wpAnyL_take (i := 7) (v := _) ?_ ?_ ?_ ?_ ?_ ?_ ?_ ?_ ?_
  rotate_left 2; (simp only [gA, gB, gC]; rfl); kernel_rfl; kernel_rfl; kernel_rfl; kernel_rfl; exact fun _ _ _ h => h; refine Or.inl ⟨?_, ?_⟩; focus (go_simp; done)
  focus (intro w hSw; have b0 := hSw.cell 0; have b2 := hSw.cell 2; (go_simp <;> with_reducible rfl))
  assumption; (try simp only [Act.put, gD, gE, gF])
  refine' wpAnyL_take (i := 8) (v := _) ?_ ?_ ?_ ?_ ?_ ?_ ?_ ?_ ?_
  rotate_left 2; (simp only [gA, gB, gC]; rfl); kernel_rfl; kernel_rfl; kernel_rfl; kernel_rfl; exact fun _ _ _ h => h; refine Or.inl ⟨?_, ?_⟩; focus (go_simp; done)
  focus (intro w hSw; have b0 := hSw.cell 0; have b2 := hSw.cell 2; (go_simp <;> with_reducible rfl))
  assumption; (try simp only [Act.put, gD, gE, gF])
  refine' wpAnyL_take (i := 9) (v := _) ?_ ?_ ?_ ?_ ?_ ?_ ?_ ?_ ?_
  rotate_left 2; (simp only [gA, gB, gC]; rfl); kernel_rfl; kernel_rfl; kernel_rfl; kernel_rfl; exact fun _ _ _ h => h; refine Or.inl ⟨?_, ?_⟩; focus (go_simp; done)
  focus (intro w hSw; have b0 := hSw.cell 0; have b2 := hSw.cell 2; (go_simp <;> with_reducible rfl))
  assumption; (try simp only [Act.put, gD, gE, gF])
  refine' wpAnyL_take (i := 10) (v := _) ?_ ?_ ?_ ?_ ?_ ?_ ?_ ?_ ?_
  rotate_left 2; (simp only [gA, gB, gC]; rfl); kernel_rfl; kernel_rfl; kernel_rfl; kernel_rfl; exact fun _ _ _ h => h; refine Or.inl ⟨?_, ?_⟩; focus (go_simp; done)
  focus (intro w hSw; have b0 := hSw.cell 0; have b2 := hSw.cell 2; (go_simp <;> with_reducible rfl))
  assumption; (try simp only [Act.put, gD, gE, gF])
  refine' wpAnyL_one (i := 11) ?_ ?_ ?_ (fun K hK => ?_)
  rotate_left
  focus kernel_rfl
  focus kernel_rfl
  focus (simp only [gA, gB, gC]; rfl)
  have k0 := (HD.out.kn.cell d).trans (slRow_cell _ _ hd)
  have kf := HD.out.kn.frozen d
  have klo := HD.out.kn.lt
  go_simp
  refine hK.out _ _ (hHeld.far (p := ⟨Kb, d, none⟩) a1 _) (fun hHeld => ?_)
  clear hK K
  (try simp only [Act.put, gD, gE, gF])
  clear k0 kf klo
  refine' wpAnyL_take (i := 12) (v := _) ?_ ?_ ?_ ?_ ?_ ?_ ?_ ?_ ?_
  rotate_left 2; (simp only [gA, gB, gC]; rfl); kernel_rfl; kernel_rfl; kernel_rfl; kernel_rfl; exact fun _ _ _ h => h; refine Or.inl ⟨?_, ?_⟩; focus (go_simp; done)
  focus (intro w hSw; have b0 := hSw.cell 0; have b2 := hSw.cell 2; (go_simp <;> with_reducible rfl))
  assumption; (try simp only [Act.put, gD, gE, gF])
  refine' wpAnyL_last ?_ ?_ (fun K hK => ?_)
  rotate_left
  focus kernel_rfl
  focus (simp only [gA, gB, gC]; rfl)
  have hcp := (show Bk (w.setCell ⟨Kb, d, none⟩ (.bool false)).drew Ob _ _ from (HR.out.cp.far (p := ⟨Kb, d, none⟩) (fun e => a5 e.symm) (.bool false)).below (below_drewN _ _ 1))
  have c0 := (hcp.cell d).trans (slRow_cell _ _ hd)
  have cf := hcp.frozen d
  have clo := hcp.lt
  clear hcp
  go_simp
  refine hK.out _ _ ?_
  clear hK K
  (try simp only [Act.put, gD, gE, gF])
  refine wpAny_done (by kernel_rfl) ?_ _
  clear c0 cf clo
  have HG := Lib.hid (show Rg V Bf Kb Wb Ob s fw d 0 w ((w.setCell ⟨Kb, d, none⟩ (.bool false)).setCell ⟨Ob, d, none⟩ (.int .i64 (-1))).drew from (rg_new HR.out hd (Below.refl _ _) HR.out).below (below_drewN _ _ 1))
  clear hHeld HD
  go_wp2
  go_loopw [4] (fun i wr => ∃ k : Nat, k ≤ V ∧ i = .int .i64 k ∧ Hid (Rg V Bf Kb Wb Ob s fw d k w wr)) (fun i _ => V - (intOf i).toNat)
  case atStart => exact ⟨0, Nat.zero_le _, rfl, HG⟩
  case round =>
    clear HG
    obtain ⟨k, hk, rfl, HG⟩ := hrel
    have b2 := HG.out.fb.cell 2
    by_cases hltk : k < V
    · have hltk' : (k : Int) < V := by omega
      have hltk0 : (0 : Int) ≤ (k : Int) := by omega
      have c0 := (HG.out.cp.cell k).trans (slRow_cell _ _ hltk)
      have cf := HG.out.cp.frozen k
      have clo := HG.out.cp.lt
      obtain ⟨z, hz⟩ : ∃ z, ogz s d k k = z := ⟨_, rfl⟩
      have HZ := Lib.hid hz
      rw [hz] at c0
      clear hz
      by_cases hzd : z = (d : Int)
      · have HN := Lib.hid (show Rg V Bf Kb Wb Ob s fw d (k + 1) w (wr.setCell ⟨Ob, k, none⟩ (.int .i64 (-1))) from HG.out.neg (fun v hv => by rw [ogz_step HOk.out, HZ.out, if_pos hzd]) a3 a5 a6)
        subst hzd
        clear HG
        go_wp2
        go_roundw
        case rel => exact ⟨k + 1, by omega, by first | rfl | go_num, HN⟩
        case measure => simp [intOf]; omega
      · have HN := Lib.hid (show Rg V Bf Kb Wb Ob s fw d (k + 1) w wr from HG.out.same (fun v hv => by
          rw [ogz_step HOk.out, HZ.out, if_neg hzd]
          by_cases e : v = k
          · subst e; rw [if_pos rfl, HZ.out]
          · rw [if_neg e]))
        clear HG
        go_wp2
        go_roundw
        case rel => exact ⟨k + 1, by omega, by first | rfl | go_num, HN⟩
        case measure => simp [intOf]; omega
    · have hltk' : ¬ (k : Int) < V := by omega
      obtain rfl : k = V := by omega
      go_wp2
      go_end0
      refine ⟨rfl, ⟨HG.out.fb, ?_, HG.out.wd, ?_, ?_, HR.out.ap⟩, HG.out.mu⟩
      · have := HG.out.kn
        rw [slRow_congr (fun v hv => by rw [kn_end])] at this
        exact this
      · have := HG.out.cp
        rw [slRow_congr (fun v hv => by rw [ogz_end hv])] at this
        exact this
      · intro v n hv hn
        refine HR.out.wv v n hv ?_
        simp only [Fo.upd] at hn
        split at hn
        · cases hn
        · exact hn
end Go.Proofs.YtojflhkmonicoaaGreat
