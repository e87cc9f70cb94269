/- The specification of layer 14: what is known, and of what a variable is a copy. No condition. -/
import Derived.Test.YtojflhkmonicoaaGreatFoParts
namespace Go.Proofs.YtojflhkmonicoaaGreat
open Go.RowKit
set_option linter.unusedVariables false
set_option linter.unusedSimpArgs false
attribute [local go_sem] y_undef
/-- The specification's facts in memory: block Bf, rows K, W, O. -/
structure Rf (V Bf K W O : Nat) (s : Fo.S) (fw : Nat → Int) (u : World) : Prop where
  fb : Bk u Bf 89 #[.slice (some ⟨K, 0, none⟩) V V, .slice (some ⟨W, 0, none⟩) V V, .slice (some ⟨O, 0, none⟩) V V]
  kn : Bk u K 4 (slRow V fun v => .bool (s.wd (v : Int)).isSome)
  wd : Bk u W 3 (slRow V fun v => .int .i64 (fw v))
  cp : Bk u O 3 (slRow V fun v => .int .i64 ((s.cp (v : Int)).getD (-1)))
  wv : ∀ (v : Nat) (n : Int), v < V → s.wd (v : Int) = some n → fw v = n
  ap : Bf ≠ K ∧ Bf ≠ W ∧ Bf ≠ O ∧ K ≠ W ∧ K ≠ O ∧ W ≠ O
theorem Rf.below {V Bf K W O : Nat} {s : Fo.S} {fw : Nat → Int} {u u' : World} (h : Rf V Bf K W O s fw u) (hb : Below u.heap.size u u') : Rf V Bf K W O s fw u' := ⟨h.fb.below hb, h.kn.below hb, h.wd.below hb, h.cp.below hb, h.wv, h.ap⟩
set_option maxHeartbeats 2000000 in
theorem ruse_any (V Bf K W O : Nat) (s : Fo.S) (fw : Nat → Int) (v : Nat) (hv : v < V) (hV : V ≤ 1000) (hok : Fo.Ok V s) (w : World) (h : Rf V Bf K W O s fw w) :
    Calls Tryz.prog 47 #[.pointer (some ⟨Bf, 0, none⟩), .int .i64 (v : Int)] w fun e w' => e = .returned (.int .i64 (Fo.use s v)) ∧ w' = w := by
  have b2 := h.fb.cell 2
  have c0 := (h.cp.cell v).trans (slRow_cell _ _ hv)
  have hlt : (v : Int) < V := by omega
  have hlt0 : (0 : Int) ≤ (v : Int) := by omega
  unfold Fo.use
  cases hc : s.cp (v : Int) with
  | none =>
    rw [hc] at c0
    simp only [Option.getD_none] at c0 ⊢
    have hm : ¬ ((0 : Int) ≤ -1) := by omega
    clear hc h
    go_enter Tryz.func47, Tryz.ntmps47
    go_wp2
    go_ret
    exact ⟨rfl, rfl⟩
  | some x =>
    rw [hc] at c0
    simp only [Option.getD_some] at c0 ⊢
    have hx := (hok.cp _ _ hc).1
    clear hc h
    go_enter Tryz.func47, Tryz.ntmps47
    go_wp2
    go_ret
    exact ⟨rfl, rfl⟩
end Go.Proofs.YtojflhkmonicoaaGreat
