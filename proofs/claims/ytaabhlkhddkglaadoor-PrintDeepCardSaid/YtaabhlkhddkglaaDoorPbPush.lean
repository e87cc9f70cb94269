/- The parser's builder: its state, a new one, push, leaf. No condition. -/
import Derived.Test.YtaabhlkhddkglaaDoorPbBase
namespace Go.Proofs.YtaabhlkhddkglaaDoor
open Go.RowKit
set_option linter.unusedVariables false
set_option linter.unusedSimpArgs false
attribute [local go_sem] y_undef
abbrev bdCells (g1 g2 g3 : Nat) (vp vo : Value) (br : Int) (en dp : Bool) (ln : Int) : Array Value := #[.nilFunc, fnd g1, fnd g2, fnd g3, vp, vo, .int .i64 br, .bool en, .bool dp, .int .i64 ln]
/-- The builder in block B, its finders behind base and ahead of it. -/
def Bd (base B : Nat) (vp vo : Value) (br : Int) (en dp : Bool) (ln : Int) (u : World) : Prop :=
  ∃ g1 g2 g3 m1 m2 m3, (base ≤ B ∧ Bk u B 80 (bdCells g1 g2 g3 vp vo br en dp ln)) ∧ (Fnd u base g1 m1 signs1 ∧ Fnd u base g2 m2 signs2 ∧ Fnd u base g3 m3 signs3) ∧ (g1 < B ∧ m1 < B) ∧ (g2 < B ∧ m2 < B) ∧ g3 < B ∧ m3 < B
section
variable {base B : Nat} {vp vo : Value} {br : Int} {en dp : Bool} {ln : Int} {u u' : World}
theorem Bd.lt (h : Bd base B vp vo br en dp ln u) : B < u.heap.size := by obtain ⟨_, _, _, _, _, _, ⟨_, h⟩, _⟩ := h; exact h.lt
theorem Bd.le (h : Bd base B vp vo br en dp ln u) : base ≤ B := by obtain ⟨_, _, _, _, _, _, ⟨h, _⟩, _⟩ := h; exact h
theorem Bd.cell (h : Bd base B vp vo br en dp ln u) : u.cell? ⟨B, 4, none⟩ = some vp ∧ u.cell? ⟨B, 5, none⟩ = some vo ∧ u.cell? ⟨B, 6, none⟩ = some (.int .i64 br) ∧ u.cell? ⟨B, 7, none⟩ = some (.bool en) ∧ u.cell? ⟨B, 8, none⟩ = some (.bool dp) ∧ u.cell? ⟨B, 9, none⟩ = some (.int .i64 ln) ∧ ∀ o, u.frozen? ⟨B, o, none⟩ = false := by
  obtain ⟨_, _, _, _, _, _, ⟨_, h⟩, _⟩ := h
  exact ⟨h.cell 4, h.cell 5, h.cell 6, h.cell 7, h.cell 8, h.cell 9, h.frozen⟩
theorem Bd.grown {row : Option Nat} (h : Bd base B vp vo br en dp ln u) (hg : u.grownBy u' row) (hr : ∀ k, row = some k → B < k) : Bd base B vp vo br en dp ln u' := by
  obtain ⟨g1, g2, g3, m1, m2, m3, ⟨hb, hk⟩, ⟨f1, f2, f3⟩, ⟨a1, b1⟩, ⟨a2, b2⟩, a3, b3⟩ := h
  have hne : ∀ k, k ≤ B → row ≠ some k := fun k hk e => by have := hr k e; omega
  exact ⟨g1, g2, g3, m1, m2, m3, ⟨hb, (hg.block B hk.lt (fun e => hne B (Nat.le_refl _) e.symm)).trans hk⟩, ⟨f1.grown hg (hne _ (by omega)) (hne _ (by omega)), f2.grown hg (hne _ (by omega)) (hne _ (by omega)), f3.grown hg (hne _ (by omega)) (hne _ (by omega))⟩, ⟨a1, b1⟩, ⟨a2, b2⟩, a3, b3⟩
theorem Bd.below (h : Bd base B vp vo br en dp ln u) (hb : Below u.heap.size u u') : Bd base B vp vo br en dp ln u' :=
  h.grown (row := none) ⟨hb.os, hb.tape, hb.output, hb.size, fun k hk _ => hb.block k hk⟩ (fun k e => by cases e)
theorem Bd.store (h : Bd base B vp vo br en dp ln u) (i : Nat) (v : Value) {vp' vo' : Value} {br' : Int} {en' dp' : Bool} {ln' : Int} (hc : ∀ g1 g2 g3, (bdCells g1 g2 g3 vp vo br en dp ln).setIfInBounds i v = bdCells g1 g2 g3 vp' vo' br' en' dp' ln') : Bd base B vp' vo' br' en' dp' ln' (u.setCell ⟨B, i, none⟩ v) := by
  obtain ⟨g1, g2, g3, m1, m2, m3, ⟨hb, hk⟩, ⟨f1, f2, f3⟩, ⟨a1, b1⟩, ⟨a2, b2⟩, a3, b3⟩ := h
  have hg := set_gr u B i v
  have hne : ∀ k, k < B → some B ≠ some k := fun k hk e => by injection e with e; omega
  exact ⟨g1, g2, g3, m1, m2, m3, ⟨hb, by rw [← hc]; exact hk.set i v⟩, ⟨f1.grown hg (hne _ a1) (hne _ b1), f2.grown hg (hne _ a2) (hne _ b2), f3.grown hg (hne _ a3) (hne _ b3)⟩, ⟨a1, b1⟩, ⟨a2, b2⟩, a3, b3⟩
end
/-- The builder, its parts' cells and those of what is open. -/
def Bs (base B : Nat) (vp : Value) (n : Nat) (xs : List Value) (vo : Value) (m : Nat) (ys : List Value) (br : Int) (en dp : Bool) (ln : Int) (u : World) : Prop :=
  Bd base B vp vo br en dp ln u ∧ u.ownsRow (B + 1) 89 8 vp n xs ∧ u.ownsRow (B + 1) 103 4 vo m ys ∧ (vo.ownBlock = none ∨ vo.ownBlock ≠ vp.ownBlock)
section
variable {base B n m : Nat} {vp vo : Value} {xs ys : List Value} {br : Int} {en dp : Bool} {ln : Int} {u u' : World}
theorem row_below {b : Nat} {e : TypeId} {size n : Nat} {v : Value} {xs : List Value} (h : u.ownsRow b e size v n xs) (hb : Below u.heap.size u u') : u'.ownsRow b e size v n xs :=
  World.ownsRow.kept h (row := none) ⟨hb.os, hb.tape, hb.output, hb.size, fun k hk _ => hb.block k hk⟩ (by cases hv : v.ownBlock <;> simp)
theorem Bs.below (h : Bs base B vp n xs vo m ys br en dp ln u) (hb : Below u.heap.size u u') : Bs base B vp n xs vo m ys br en dp ln u' := ⟨h.1.below hb, row_below h.2.1 hb, row_below h.2.2.1 hb, h.2.2.2⟩
theorem Bs.alloc (h : Bs base B vp n xs vo m ys br en dp ln u) (o : Obj) : Bs base B vp n xs vo m ys br en dp ln (u.alloc o) := h.below ((Below.refl _ _).alloc (Nat.le_refl _) o)
/-- A part more. -/
theorem Bs.part (h : Bs base B vp n xs vo m ys br en dp ln u) {vp' : Value} {zs : List Value} (hown : u'.ownsRow (B + 1) 89 8 vp' (n + 1) (xs ++ zs)) (hg : u.grownBy u' vp.ownBlock) (hv : vp'.ownBlock = vp.ownBlock ∨ vp'.ownBlock = some u.heap.size) :
    Bs base B vp' (n + 1) (xs ++ zs) vo m ys br en dp ln (u'.setCell ⟨B, 4, none⟩ vp') ∧ Bd base B vp vo br en dp ln u' := by
  obtain ⟨h1, h2, h3, h4⟩ := h
  have hd := h1.grown hg (fun k hk => by have := (h2.lt k hk).1; omega)
  refine ⟨⟨hd.store 4 vp' (fun _ _ _ => rfl), ownsRow_setCell_below hown (by show B < B + 1; omega) _, ownsRow_setCell_below (h3.kept hg h4) (by show B < B + 1; omega) _, ?_⟩, hd⟩
  rcases hv with e | e
  · rw [e]; exact h4
  · right
    intro e2
    rw [e] at e2
    have := (h3.lt _ e2).2
    omega
/-- Two numbers of the builder's own. -/
theorem Bs.ended (h : Bs base B vp n xs vo m ys br en dp ln u) (b : Bool) : Bs base B vp n xs vo m ys br b dp ln (u.setCell ⟨B, 7, none⟩ (.bool b)) :=
  ⟨h.1.store 7 _ (fun _ _ _ => rfl), ownsRow_setCell_below h.2.1 (by show B < B + 1; omega) _, ownsRow_setCell_below h.2.2.1 (by show B < B + 1; omega) _, h.2.2.2⟩
end
set_option maxHeartbeats 1000000 in
theorem newBuilder_any (w : World) : Calls Tryd.prog 45 #[] w fun e w' => ∃ B, e = .returned (.pointer (some ⟨B, 0, none⟩)) ∧ Bs w.heap.size B (.slice none 0 0) 0 [] (.slice none 0 0) 0 [] 0 false false 0 w' ∧ Below w.heap.size w w' := by
  have HL := Lib.hid (lines_any w)
  go_enter Tryd.func45, Tryd.ntmps45
  go_wp2_with (go_at_call 55; refine HL.out.mono ?_; rintro e w1 ⟨g1, g2, g3, m1, m2, m3, rfl, h1, h2, h3, hb⟩; have HF := Lib.hid (And.intro h1 (And.intro h2 h3)); have HB := Lib.hid hb; clear h1 h2 h3 hb)
  go_ret
  have hb2 := (Below.refl w1.heap.size w1).alloc (Nat.le_refl _) (.cells (bdCells g1 g2 g3 (.slice none 0 0) (.slice none 0 0) 0 false false 0) 80)
  obtain ⟨h1, h2, h3⟩ := HF.out
  refine ⟨w1.heap.size, rfl, ⟨⟨g1, g2, g3, m1, m2, m3, ⟨HB.out.size, Bk.new _ _ _⟩, ⟨h1.below hb2, h2.below hb2, h3.below hb2⟩, ⟨h1.2.2.1, h1.2.2.2.1⟩, ⟨h2.2.2.1, h2.2.2.2.1⟩, h3.2.2.1, h3.2.2.2.1⟩, World.ownsRow_nil _ _ _ _, World.ownsRow_nil _ _ _ _, .inl rfl⟩, HB.out.alloc HB.out.size _⟩
/-- A part as a value and as cells. -/
abbrev ptV (k num : Int) (s : ByteArray) (op : Int) (A : Option Addr) (l c : Nat) (d line : Int) (bare : Bool) : Value := .agg #[.int .i64 k, .int .i64 num, .string s, .int .i64 op, .slice A l c, .int .i64 d, .int .i64 line, .bool bare]
abbrev ptC (k num : Int) (s : ByteArray) (op : Int) (A : Option Addr) (l c : Nat) (d line : Int) (bare : Bool) : List Value := [.int .i64 k, .int .i64 num, .string s, .int .i64 op, .slice A l c, .int .i64 d, .int .i64 line, .bool bare]
theorem leaf_any (k num : Int) (s : ByteArray) (op : Int) (A : Option Addr) (l c : Nat) (tk tn tl : Int) (tt : ByteArray) (w : World) :
    Calls Tryd.prog 73 #[.agg #[.int .i64 k, .int .i64 num, .string s, .int .i64 op, .slice A l c], .agg #[.int .i64 tk, .int .i64 tn, .int .i64 tl, .string tt]] w fun e w' => e = .returned (ptV k num s op A l c 1 tl false) ∧ Below w.heap.size w w' := by
  have HA := Lib.hid (((Ahead.refl w).alloc (.cells #[.int .i64 k, .int .i64 num, .string s, .int .i64 op, .slice A l c] 26)).alloc (.cells #[.int .i64 tk, .int .i64 tn, .int .i64 tl, .string tt] 61))
  go_enter Tryd.func73, Tryd.ntmps73
  go_wp2
  refine bodyPost_ret (v := ptV k num s op A l c 1 tl false) ?_ rfl ⟨rfl, ?_⟩
  · simp [results, Tryd.results73, go_sem]
  · exact (HA.out.alloc _).1
theorem Tryd.infoPt : (Tryd.prog.info? 89).map (fun i => (i.zero, i.size, i.bytes)) = some (some (ptV 0 0 ⟨#[]⟩ 0 none 0 0 0 0 false), 8, 88) := by kernel_rfl
set_option maxRecDepth 100000 in
set_option maxHeartbeats 4000000 in
/-- A part that is not too deep is put behind the others. -/
theorem push_any {base B n m : Nat} {vp vo : Value} {xs ys : List Value} {br : Int} {en dp : Bool} {ln : Int} (k num : Int) (s : ByteArray) (op : Int) (A : Option Addr) (l c : Nat) (d line : Int) (bare : Bool) (w : World)
    (hs : Bs base B vp n xs vo m ys br en dp ln w) (hd : d ≤ 8) (hn : n ≤ 1000000) :
    Calls Tryd.prog 72 #[.pointer (some ⟨B, 0, none⟩), ptV k num s op A l c d line bare] w fun e w' => e = .returned (.tuple #[]) ∧ Below B w w' ∧ ∃ vp', Bs base B vp' (n + 1) (xs ++ ptC k num s op A l c d line bare) vo m ys br en dp ln w' := by
  obtain ⟨iT, hi0, hz0, hz1, hz2⟩ := info_parts Tryd.infoPt
  have HIT := Lib.hid (And.intro hi0 (And.intro hz0 (And.intro hz1 hz2)))
  clear hi0 hz0 hz1 hz2
  have hd' : ¬ (8 : Int) < d := by omega
  have hlt := hs.1.lt
  obtain ⟨c4, _, _, _, _, _, hfz⟩ := hs.1.cell
  have hf4 := hfz 4
  have HS := Lib.hid hs
  have HX := Lib.hid (show Bs base B vp n xs vo m ys br en dp ln ((w.alloc (.cells #[.int .i64 k, .int .i64 num, .string s, .int .i64 op, .slice A l c, .int .i64 d, .int .i64 line, .bool bare] 89)).alloc (.cells #[.int .i64 k, .int .i64 num, .string s, .int .i64 op, .slice A l c, .int .i64 d, .int .i64 line, .bool bare] 89)).drew from ((hs.alloc _).alloc _).below (below_drewN _ _ 1))
  have HQ := Lib.hid (show ∀ i t, (ptC k num s op A l c d line bare)[i]? = some t → ((w.alloc (.cells #[.int .i64 k, .int .i64 num, .string s, .int .i64 op, .slice A l c, .int .i64 d, .int .i64 line, .bool bare] 89)).alloc (.cells #[.int .i64 k, .int .i64 num, .string s, .int .i64 op, .slice A l c, .int .i64 d, .int .i64 line, .bool bare] 89)).drew.cell? ((⟨w.heap.size + 1, 0, none⟩ : Addr).add i) = some t from
    World.news_of_block (w := ((w.alloc (.cells #[.int .i64 k, .int .i64 num, .string s, .int .i64 op, .slice A l c, .int .i64 d, .int .i64 line, .bool bare] 89)).alloc (.cells #[.int .i64 k, .int .i64 num, .string s, .int .i64 op, .slice A l c, .int .i64 d, .int .i64 line, .bool bare] 89)).drew) (cs := #[.int .i64 k, .int .i64 num, .string s, .int .i64 op, .slice A l c, .int .i64 d, .int .i64 line, .bool bare]) (show (w.alloc (.cells #[.int .i64 k, .int .i64 num, .string s, .int .i64 op, .slice A l c, .int .i64 d, .int .i64 line, .bool bare] 89)).alloc (.cells #[.int .i64 k, .int .i64 num, .string s, .int .i64 op, .slice A l c, .int .i64 d, .int .i64 line, .bool bare] 89) |>.heap[w.heap.size + 1]? = some (Obj.cells #[.int .i64 k, .int .i64 num, .string s, .int .i64 op, .slice A l c, .int .i64 d, .int .i64 line, .bool bare] 89) from by have h := heap_alloc_new (w.alloc (.cells #[.int .i64 k, .int .i64 num, .string s, .int .i64 op, .slice A l c, .int .i64 d, .int .i64 line, .bool bare] 89)) (.cells #[.int .i64 k, .int .i64 num, .string s, .int .i64 op, .slice A l c, .int .i64 d, .int .i64 line, .bool bare] 89); rw [size_alloc] at h; exact h))
  have HC8 := Lib.hid (show ∀ u ∈ ptC k num s op A l c d line bare, u.oneCell' = true by intro u hu; simp at hu; rcases hu with rfl | rfl | rfl | rfl | rfl | rfl | rfl | rfl <;> rfl)
  have HB8 := Lib.hid (show B + 1 ≤ ((w.alloc (.cells #[.int .i64 k, .int .i64 num, .string s, .int .i64 op, .slice A l c, .int .i64 d, .int .i64 line, .bool bare] 89)).alloc (.cells #[.int .i64 k, .int .i64 num, .string s, .int .i64 op, .slice A l c, .int .i64 d, .int .i64 line, .bool bare] 89)).drew.heap.size by simp; omega)
  have HBw := Lib.hid (show Below B w ((w.alloc (.cells #[.int .i64 k, .int .i64 num, .string s, .int .i64 op, .slice A l c, .int .i64 d, .int .i64 line, .bool bare] 89)).alloc (.cells #[.int .i64 k, .int .i64 num, .string s, .int .i64 op, .slice A l c, .int .i64 d, .int .i64 line, .bool bare] 89)).drew from (((Below.refl B w).alloc (by omega) _).alloc (by simp; omega) _).trans (below_drewN B _ 1))
  clear hs hfz
  go_enter Tryd.func72, Tryd.ntmps72
  go_upto_region 5 with fail
  go_region_law (refine step_append_lies _ rfl (.tmp 26) (.tmp 28) 77 rfl (B + 1) 89 iT _ 8 88 Tryd.underlying77 HIT.out.1 HIT.out.2.1 HIT.out.2.2.1 HIT.out.2.2.2 rfl (by decide) vp n xs (by simp [Act.eval]) HX.out.2.1 ⟨w.heap.size + 1, 0, none⟩ 1 1 (ptC k num s op A l c d line bare) (by simp [Act.eval]) rfl HQ.out HC8.out (by omega) (by unfold maxLen; omega) (by omega) HB8.out _ rfl ?_; intro g8 cap W8 hown8 hgrow8 hat8 _; have HP := Lib.hid (HX.out.part hown8 hgrow8 (by rcases hat8 with e | e; exact .inl (by rw [e]; rfl); exact .inr (by rw [e]; rfl))); have HBv := Lib.hid (HBw.out.grown hgrow8 (by have := HB8.out; omega) (fun q hq => by have := (HX.out.2.1.lt q hq).1; omega)); obtain ⟨e8, _, _, _, _, _, f8⟩ := HP.out.2.cell; have f84 := f8 4; clear hown8 hgrow8 hat8 f8)
  all_goals
    go_wp2
    go_end0
    exact ⟨rfl, HBv.out.setCell (Nat.le_refl _) _, _, HP.out.1⟩
end Go.Proofs.YtaabhlkhddkglaaDoor
