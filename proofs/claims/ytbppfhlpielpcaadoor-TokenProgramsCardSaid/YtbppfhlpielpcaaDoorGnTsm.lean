/- A task in the making: what is known of it between the generator's steps. A task in the making: its maker, its body, and what is behind it. -/
import Derived.Test.YtbppfhlpielpcaaDoorGnProg
import Derived.Test.YtbppfhlpielpcaaDoorRfLbs
import Derived.Deep.AppendLies
import Derived.Test.YtbppfhlpielpcaaDoorRfWeightW
namespace Go.Proofs.YtbppfhlpielpcaaDoor
open Go.RowKit
set_option linter.unusedVariables false
abbrev RowR := Option Addr × Nat × Nat × Nat × List Value
/-- Blocks from n on that are rows: neither a deck's nor a task's nor a maker's. -/
def SxR (n : Nat) (W : World) (b : Nat) : Prop := n ≤ b ∧ ∃ t, tagOf W b = some t ∧ t ≠ 49 ∧ t ≠ 66 ∧ t ≠ 94
def RowAt (n : Nat) (W : World) (r : RowR) : Prop := Lies W (SxR n W) r.1 r.2.1 r.2.2.1 r.2.2.2.1 r.2.2.2.2
theorem sxr_keep {n : Nat} {W W' : World} (hk : ∀ b, SxR n W b → b < W.heap.size → W'.heap[b]? = W.heap[b]?) : ∀ b, SxR n W b → b < W.heap.size → SxR n W' b ∧ ∀ f, W'.cell? ⟨b, f, none⟩ = W.cell? ⟨b, f, none⟩ := fun b hb hl => by
  have e := hk b hb hl
  refine ⟨⟨hb.1, ?_⟩, fun f => World.cell?_of_block e⟩
  rw [tag_same e]
  exact hb.2
theorem RowAt.keep {n : Nat} {W W' : World} {r : RowR} (h : RowAt n W r) (hz : W.heap.size ≤ W'.heap.size) (hk : ∀ b, SxR n W b → b < W.heap.size → W'.heap[b]? = W.heap[b]?) : RowAt n W' r := Lies.keep h hz (sxr_keep hk)
/-- A cell of a row that is not empty. -/
theorem RowAt.cells {n k c size : Nat} {W : World} {A : Option Addr} {xs : List Value} (h : RowAt n W (A, k, c, size, xs)) (hk : 0 < k) : ∃ b f, A = some ⟨b, f, none⟩ ∧ ∀ j u, xs[j]? = some u → W.cell? ⟨b, f + j, none⟩ = some u := by
  obtain ⟨_, _, ⟨h0, _⟩ | ⟨b, f, e, _, _, hc⟩⟩ := h
  · simp only at h0; omega
  · exact ⟨b, f, e, hc⟩
abbrev zTk : Array Value := #[.string ⟨#[]⟩, .int .i64 0, .int .i64 0, .int .i64 0, .int .i64 0, .slice none 0 0, .slice none 0 0, .slice none 0 0, .slice none 0 0, .slice none 0 0, .slice none 0 0]
/-- The deck's block, the result's, the task's; the list; the world at first. -/
structure Tx where
  (D R T : Nat) (v : Value) (zs : List Int) (w0 : World)
structure TT (X : Tx) (tc : Array Value) (rows : List RowR) (W : World) : Prop where
  deck : Deck W X.v X.zs X.D
  gen : Gen X.D X.D X.w0.heap.size X.w0 W
  tb : Blk W X.T 66 tc
  rb : Blk W X.R 66 zTk
  num : X.D < X.w0.heap.size ∧ X.w0.heap.size ≤ X.R ∧ X.R < X.T
  row : ∀ r ∈ rows, RowAt X.w0.heap.size W r
section
variable {X : Tx} {tc mc : Array Value} {rows : List RowR} {W W' : World} {M : Nat}
theorem TT.keep (h : TT X tc rows W) (hd : Deck W' X.v X.zs X.D) (hg : Gen X.D X.D X.w0.heap.size X.w0 W') (hz : W.heap.size ≤ W'.heap.size) (hk : ∀ b, X.w0.heap.size ≤ b → b < W.heap.size → W'.heap[b]? = W.heap[b]?) : TT X tc rows W' :=
  ⟨hd, hg, (hk _ (by have := h.num; omega) h.tb.lt).trans h.tb, (hk _ h.num.2.1 h.rb.lt).trans h.rb, h.num, fun r hr => (h.row r hr).keep hz fun b hb hl => hk b hb.1 hl⟩
theorem TT.below (h : TT X tc rows W) (hb : Below W.heap.size W W') : TT X tc rows W' :=
  h.keep (h.deck.below hb) (h.gen.trans (Gen.below hb _ _ _)) hb.size fun b _ hl => hb.block b hl
theorem TT.drew (h : TT X tc rows W) : TT X tc rows W.drew := h.below ⟨rfl, rfl, rfl, Nat.le_refl _, fun _ _ => rfl⟩
theorem TT.alloc (h : TT X tc rows W) (o : Obj) : TT X tc rows (W.alloc o) := h.below ((Below.refl _ _).alloc (Nat.le_refl _) o)
theorem TT.stepD (h : TT X tc rows W) (hd : Deck W' X.v X.zs X.D) (hg : Gen X.D X.D W.heap.size W W') : TT X tc rows W' :=
  h.keep hd (h.gen.trans (hg.only X.D X.w0.heap.size)) hg.size fun b hb hl => hg.block b hl (by have := h.num; omega) (by have := h.num; omega) (fun q => by omega)
/-- A cell of the task is set. -/
theorem TT.setT (h : TT X tc rows W) (i : Nat) (u : Value) : TT X (tc.setIfInBounds i u) rows (W.setCell ⟨X.T, i, none⟩ u) := by
  have hk : ∀ b, b ≠ X.T → (W.setCell ⟨X.T, i, none⟩ u).heap[b]? = W.heap[b]? := fun b hb => Below.heap_setCell W _ u b hb
  have hn := h.num
  refine ⟨h.deck.keep (by simp) (hk _ (by omega)) fun b hb => hk b (by omega), h.gen.set (.inr (.inr (by show X.w0.heap.size ≤ X.T; omega))) u, h.tb.set i u, (hk _ (by omega)).trans h.rb, hn, fun r hr => (h.row r hr).keep (by simp) fun b hb hl => hk b ?_⟩
  rintro rfl
  obtain ⟨_, t, ht, _, h2, _⟩ := hb
  have := h.tb.tag
  rw [ht] at this
  exact h2 (by injection this)
/-- A block that is none of its own is set. -/
theorem TT.far (h : TT X tc rows W) {g : Nat} {t : TypeId} {cs : Array Value} (hb : Blk W g t cs) (ht : t = 94) (hg : X.w0.heap.size ≤ g) (i : Nat) (u : Value) : TT X tc rows (W.setCell ⟨g, i, none⟩ u) := by
  have hk : ∀ b, b ≠ g → (W.setCell ⟨g, i, none⟩ u).heap[b]? = W.heap[b]? := fun b hb => Below.heap_setCell W _ u b hb
  have hn := h.num
  subst ht
  have n1 : X.T ≠ g := tag_ne h.tb.tag hb.tag (by decide)
  have n2 : X.R ≠ g := tag_ne h.rb.tag hb.tag (by decide)
  refine ⟨h.deck.keep (by simp) (hk _ (by omega)) fun b hb => hk b (by omega), h.gen.set (.inr (.inr hg)) u, (hk _ n1).trans h.tb, (hk _ n2).trans h.rb, hn, fun r hr => (h.row r hr).keep (by simp) fun b hb' hl => hk b ?_⟩
  rintro rfl
  obtain ⟨_, t, ht, _, _, h3⟩ := hb'
  have := hb.tag
  rw [ht] at this
  exact h3 (by injection this)
/-- One more row. -/
theorem TT.push (h : TT X tc rows W) {r : RowR} (hr : RowAt X.w0.heap.size W r) : TT X tc (r :: rows) W := ⟨h.deck, h.gen, h.tb, h.rb, h.num, fun x hx => by
  rcases List.mem_cons.1 hx with rfl | hx
  · exact hr
  · exact h.row x hx⟩
theorem TT.next (h : TT X tc rows W) (n : Int) (hn : 0 ≤ n ∧ n ≤ 1000000) :
    Calls Tryd.prog 30 #[.pointer (some ⟨X.D, 0, none⟩), .int .i64 n] W fun e w' => ∃ r : Int, e = .returned (.int .i64 r) ∧ In n r ∧ TT X tc rows w' :=
  (next_any n X.D X.v X.zs W h.deck hn).mono fun e w' ⟨r, he, h0, h1, hd, hg⟩ => ⟨r, he, ⟨h0, h1⟩, h.stepD hd hg⟩
/-- With the maker's block. -/
def TP (X : Tx) (M : Nat) (tc mc : Array Value) (rows : List RowR) (W : World) : Prop := TT X tc rows W ∧ Blk W M 94 mc ∧ X.w0.heap.size ≤ M
theorem TT.box (h : TT X tc rows W) (mc : Array Value) : TP X W.heap.size tc mc rows (W.alloc (.cells mc 94)) := ⟨h.alloc _, Blk.new _ _ _, by have := h.tb.lt; have := h.num; omega⟩
theorem TP.below (h : TP X M tc mc rows W) (hb : Below W.heap.size W W') : TP X M tc mc rows W' := ⟨h.1.below hb, h.2.1.below hb h.2.1.lt, h.2.2⟩
theorem TP.drew (h : TP X M tc mc rows W) : TP X M tc mc rows W.drew := h.below ⟨rfl, rfl, rfl, Nat.le_refl _, fun _ _ => rfl⟩
theorem TP.alloc (h : TP X M tc mc rows W) (o : Obj) : TP X M tc mc rows (W.alloc o) := h.below ((Below.refl _ _).alloc (Nat.le_refl _) o)
theorem TP.setT (h : TP X M tc mc rows W) (i : Nat) (u : Value) : TP X M (tc.setIfInBounds i u) mc rows (W.setCell ⟨X.T, i, none⟩ u) :=
  ⟨h.1.setT i u, h.2.1.far (Ne.symm (tag_ne h.1.tb.tag h.2.1.tag (by decide))) u, h.2.2⟩
theorem TP.setM (h : TP X M tc mc rows W) (i : Nat) (u : Value) : TP X M tc (mc.setIfInBounds i u) rows (W.setCell ⟨M, i, none⟩ u) :=
  ⟨h.1.far h.2.1 rfl h.2.2 i u, h.2.1.set i u, h.2.2⟩
theorem TP.push (h : TP X M tc mc rows W) {r : RowR} (hr : RowAt X.w0.heap.size W r) : TP X M tc mc (r :: rows) W := ⟨h.1.push hr, h.2⟩
theorem TP.next (h : TP X M tc mc rows W) (n : Int) (hn : 0 ≤ n ∧ n ≤ 1000000) :
    Calls Tryd.prog 30 #[.pointer (some ⟨X.D, 0, none⟩), .int .i64 n] W fun e w' => ∃ r : Int, e = .returned (.int .i64 r) ∧ In n r ∧ TP X M tc mc rows w' :=
  (next_any n X.D X.v X.zs W h.1.deck hn).mono fun e w' ⟨r, he, h0, h1, hd, hg⟩ => ⟨r, he, ⟨h0, h1⟩, h.1.stepD hd hg, (hg.block M h.2.1.lt (by have := h.1.num; have := h.2.2; omega) (by have := h.1.num; have := h.2.2; omega) (fun q => by have := h.2.1.lt; omega)).trans h.2.1, h.2.2⟩
theorem TP.size (h : TP X M tc mc rows W) : X.w0.heap.size < W.heap.size := by have := h.2.1.lt; have := h.2.2; omega
theorem row_lit {n : Nat} {t : TypeId} {cs : Array Value} {g k size : Nat} (hb : Blk W g t cs) (hn : n ≤ g) (ht : t ≠ 49 ∧ t ≠ 66 ∧ t ≠ 94) (hl : cs.size = k * size) : RowAt n W (some ⟨g, 0, none⟩, k, k, size, cs.toList) :=
  Lies.blk hb ⟨hn, t, hb.tag, ht⟩ hl
theorem row_own {n k size : Nat} {e : TypeId} {v : Value} {xs : List Value} (h : W.ownsRow n e size v k xs) (ht : e ≠ 49 ∧ e ≠ 66 ∧ e ≠ 94) (hl : xs.length = k * size) : ∃ A c, v = .slice A k c ∧ RowAt n W (A, k, c, size, xs) :=
  Lies.own h (fun b hb hm => ⟨hb, e, hm, ht⟩) hl
theorem blk_news {g : Nat} {t : TypeId} {cs : Array Value} (hb : Blk W g t cs) : ∀ j u, cs.toList[j]? = some u → W.cell? ((⟨g, 0, none⟩ : Addr).add j) = some u := World.news_of_block hb
/-- With the rows of inputs and of names in the making. -/
structure TS (X : Tx) (M : Nat) (tc mc : Array Value) (l : List (ByteArray × Int × Int)) (vs : List ByteArray) (v5 vv : Value) (rows : List RowR) (W : World) : Prop where
  p : TP X M tc mc rows W
  rin : W.ownsRow X.w0.heap.size 72 3 v5 l.length (l.flatMap inCells)
  rvs : W.ownsRow X.w0.heap.size 9 1 vv vs.length (vs.map Value.string)
variable {l : List (ByteArray × Int × Int)} {vs : List ByteArray} {v5 vv : Value}
theorem TS.below (h : TS X M tc mc l vs v5 vv rows W) (hb : Below W.heap.size W W') : TS X M tc mc l vs v5 vv rows W' :=
  ⟨h.p.below hb, own_keep h.rin hb.size fun g hg => hb.block g (own_tag h.rin hg).2.1, own_keep h.rvs hb.size fun g hg => hb.block g (own_tag h.rvs hg).2.1⟩
theorem TS.drew (h : TS X M tc mc l vs v5 vv rows W) : TS X M tc mc l vs v5 vv rows W.drew := h.below ⟨rfl, rfl, rfl, Nat.le_refl _, fun _ _ => rfl⟩
theorem TS.alloc (h : TS X M tc mc l vs v5 vv rows W) (o : Obj) : TS X M tc mc l vs v5 vv rows (W.alloc o) := h.below ((Below.refl _ _).alloc (Nat.le_refl _) o)
theorem own_far {W : World} {B n size g : Nat} {e t : TypeId} {v : Value} {xs : List Value} {cs : Array Value} (h : W.ownsRow B e size v n xs) (hb : Blk W g t cs) (hne : e ≠ t) (i : Nat) (u : Value) : (W.setCell ⟨g, i, none⟩ u).ownsRow B e size v n xs :=
  own_keep h (by simp) fun q hq => Below.heap_setCell W _ u q (tag_ne (own_tag h hq).1 hb.tag hne)
theorem TS.setT (h : TS X M tc mc l vs v5 vv rows W) (i : Nat) (u : Value) : TS X M (tc.setIfInBounds i u) mc l vs v5 vv rows (W.setCell ⟨X.T, i, none⟩ u) :=
  ⟨h.p.setT i u, own_far h.rin h.p.1.tb (by decide) i u, own_far h.rvs h.p.1.tb (by decide) i u⟩
theorem TS.setM (h : TS X M tc mc l vs v5 vv rows W) (i : Nat) (u : Value) : TS X M tc (mc.setIfInBounds i u) l vs v5 vv rows (W.setCell ⟨M, i, none⟩ u) :=
  ⟨h.p.setM i u, own_far h.rin h.p.2.1 (by decide) i u, own_far h.rvs h.p.2.1 (by decide) i u⟩
theorem TS.next (h : TS X M tc mc l vs v5 vv rows W) (n : Int) (hn : 0 ≤ n ∧ n ≤ 1000000) :
    Calls Tryd.prog 30 #[.pointer (some ⟨X.D, 0, none⟩), .int .i64 n] W fun e w' => ∃ r : Int, e = .returned (.int .i64 r) ∧ In n r ∧ TS X M tc mc l vs v5 vv rows w' :=
  (next_any n X.D X.v X.zs W h.p.1.deck hn).mono fun e w' ⟨r, he, h0, h1, hd, hg⟩ => by
    have hk : ∀ b, X.w0.heap.size ≤ b → b < W.heap.size → w'.heap[b]? = W.heap[b]? := fun b hb hl => hg.block b hl (by have := h.p.1.num; omega) (by have := h.p.1.num; omega) (fun q => by omega)
    exact ⟨r, he, ⟨h0, h1⟩, ⟨h.p.1.stepD hd hg, (hk M h.p.2.2 h.p.2.1.lt).trans h.p.2.1, h.p.2.2⟩, own_keep h.rin hg.size fun g q => hk g (own_tag h.rin q).2.2 (own_tag h.rin q).2.1, own_keep h.rvs hg.size fun g q => hk g (own_tag h.rvs q).2.2 (own_tag h.rvs q).2.1⟩
/-- A step that changes one row, which is of none of these blocks. -/
theorem TP.grown (h : TP X M tc mc rows W) {e : TypeId} {n k size : Nat} {v : Value} {xs : List Value} (ho : W.ownsRow X.w0.heap.size e size v k xs) (he : e ≠ 49 ∧ e ≠ 66 ∧ e ≠ 94) (hg : W.grownBy W' v.ownBlock)
    (hrow : ∀ r ∈ rows, ∀ b f, r.1 = some ⟨b, f, none⟩ → v.ownBlock ≠ some b) : TP X M tc mc rows W' := by
  obtain ⟨ht, hm, hM⟩ := h
  have hn := ht.num
  have hlt := fun g q => ho.lt g q
  have hk : ∀ b, b < W.heap.size → some b ≠ v.ownBlock → W'.heap[b]? = W.heap[b]? := hg.block
  have hne : ∀ {b : Nat} {t : TypeId}, tagOf W b = some t → e ≠ t → some b ≠ v.ownBlock := fun hb h2 q => by
    have := (own_tag ho q.symm).1
    rw [hb] at this
    exact h2 (by injection this with this; exact this.symm)
  refine ⟨⟨ht.deck.keep hg.size (hk _ (by have := ht.tb.lt; omega) (fun q => by have := (hlt _ q.symm).1; omega)) fun b hb => hk b (by have := ht.tb.lt; omega) (fun q => by have := (hlt _ q.symm).1; omega), gen_grown ht.gen hg fun q hq => (hlt q hq).1, (hk _ ht.tb.lt (hne ht.tb.tag he.2.1)).trans ht.tb, (hk _ ht.rb.lt (hne ht.rb.tag he.2.1)).trans ht.rb, hn, fun r hr => ?_⟩, (hk _ hm.lt (hne hm.tag he.2.2)).trans hm, hM⟩
  obtain ⟨q1, q2, q3 | ⟨b, f, e1, hS, hl, hc⟩⟩ := ht.row r hr
  · exact ⟨q1, q2, .inl q3⟩
  · have hb := hk b hl fun q => hrow r hr b f e1 q.symm
    exact ⟨q1, q2, .inr ⟨b, f, e1, ⟨hS.1, by rw [tag_same hb]; exact hS.2⟩, by have := hg.size; omega, fun j u hu => (World.cell?_of_block hb).trans (hc j u hu)⟩⟩
theorem own_other {W W' : World} {B B' n n' size size' : Nat} {e e' : TypeId} {v v' : Value} {xs xs' : List Value} (h : W.ownsRow B e size v n xs) (h' : W.ownsRow B' e' size' v' n' xs') (hne : e ≠ e') (hg : W.grownBy W' v'.ownBlock) : W'.ownsRow B e size v n xs :=
  own_keep h hg.size fun g q => hg.block g (own_tag h q).2.1 fun q' => by
    have h1 := (own_tag h q).1
    have h2 := (own_tag h' q'.symm).1
    rw [h1] at h2
    exact hne (by injection h2)
/-- One more input. -/
theorem TS.app5 (h : TS X M tc mc l vs v5 vv [] W) {x : ByteArray × Int × Int} {v' : Value} (hown : W'.ownsRow X.w0.heap.size 72 3 v' (l.length + 1) (l.flatMap inCells ++ inCells x)) (hg : W.grownBy W' v5.ownBlock) : TS X M tc mc (l ++ [x]) vs v' vv [] W' :=
  ⟨h.p.grown (n := 0) h.rin (by decide) hg (fun r hr => by cases hr), by simpa using hown, own_other h.rvs h.rin (by decide) hg⟩
/-- More names. -/
theorem TS.appV (h : TS X M tc mc l vs v5 vv rows W) {ys : List ByteArray} {v' : Value} (hown : W'.ownsRow X.w0.heap.size 9 1 v' (vs.length + ys.length) (vs.map Value.string ++ ys.map Value.string)) (hg : W.grownBy W' vv.ownBlock) (hrow : ∀ r ∈ rows, ∀ b f, r.1 = some ⟨b, f, none⟩ → vv.ownBlock ≠ some b) : TS X M tc mc l (vs ++ ys) v5 v' rows W' :=
  ⟨h.p.grown (n := 0) h.rvs (by decide) hg hrow, own_other h.rin h.rvs (by decide) hg, by simpa using hown⟩
theorem TS.push (h : TS X M tc mc l vs v5 vv rows W) {r : RowR} (hr : RowAt X.w0.heap.size W r) : TS X M tc mc l vs v5 vv (r :: rows) W := ⟨h.p.push hr, h.rin, h.rvs⟩
/-- The rows are made: they change no more. -/
theorem TS.done (h : TS X M tc mc l vs v5 vv rows W) : ∃ A5 c5 Av cv, v5 = .slice A5 l.length c5 ∧ vv = .slice Av vs.length cv ∧ TP X M tc mc ((Av, vs.length, cv, 1, vs.map Value.string) :: (A5, l.length, c5, 3, l.flatMap inCells) :: rows) W := by
  obtain ⟨A5, c5, e5, h5⟩ := row_own h.rin (by decide) (flat_len inCells 3 (fun _ => rfl) l)
  obtain ⟨Av, cv, ev, hv⟩ := row_own h.rvs (by decide) (by simp)
  exact ⟨A5, c5, Av, cv, e5, ev, (h.p.push h5).push hv⟩
theorem TP.x3 {g : Nat} {a b c : Value} (h : TP X M tc mc ((some ⟨g, 0, none⟩, 1, 1, 3, [a, b, c]) :: rows) W) : W.cell? ⟨g, 0, none⟩ = some a ∧ W.cell? ⟨g, 1, none⟩ = some b ∧ W.cell? ⟨g, 2, none⟩ = some c := by
  obtain ⟨b', f', e, hc⟩ := (h.1.row _ (List.mem_cons_self ..)).cells (by omega)
  injection e with e
  injection e with e1 e2
  subst e1 e2
  have h0 := hc 0 a rfl
  have h1 := hc 1 b rfl
  have h2 := hc 2 c rfl
  rw [Nat.zero_add] at h0 h1 h2
  exact ⟨h0, h1, h2⟩
theorem pow_1to8 (m : Nat) (h : m ≤ 3) : 1 ≤ wrap64 ((2 : Int) ^ m) ∧ wrap64 ((2 : Int) ^ m) ≤ 8 :=
  (show ∀ k, k < 4 → 1 ≤ wrap64 ((2 : Int) ^ k) ∧ wrap64 ((2 : Int) ^ k) ≤ 8 by decide +kernel) m (by omega)
end
end Go.Proofs.YtbppfhlpielpcaaDoor
namespace Go.Proofs.YtbppfhlpielpcaaDoor
open Go.RowKit
set_option linter.unusedVariables false
abbrev mC (D : Nat) (vv v3 : Value) (sa : Option Addr) (sn sc : Nat) (stmts : Int) : Array Value := #[.pointer (some ⟨D, 0, none⟩), vv, .slice none 0 0, v3, .slice sa sn sc, .string ⟨#[]⟩, .int .i64 0, .int .i64 stmts, .int .i64 0]
section
variable {X : Tx} {tc mc : Array Value} {rows : List RowR} {W W' : World} {M : Nat}
theorem getD_map (l : List ByteArray) (i : Nat) (hi : i < l.length) : (l.map Value.string)[i]? = some (.string (l.getD i ⟨#[]⟩)) := by
  rw [List.getElem?_map, List.getElem?_eq_getElem hi, List.getD_eq_getElem?_getD, List.getElem?_eq_getElem hi]
  rfl
theorem TP.strs {C : Cx} (h : TP X M tc mc rows W) (hD : C.D = X.D) (hM : C.M = M) (hB : C.B = W.heap.size) {A : Option Addr} {n c : Nat} {l : List ByteArray} (hn : l.length = n) (hr : (A, n, c, 1, l.map Value.string) ∈ rows) : StrsAt C W A c l := by
  obtain ⟨h1, h2, ⟨h3, h4, h5⟩ | ⟨b, f, e, ⟨hS, t, ht, _, _, h7⟩, hl, hc⟩⟩ := h.1.row _ hr
  · simp only at h3 h4 h5
    exact .inl ⟨List.eq_nil_of_length_eq_zero (by omega), h4, h5⟩
  · simp only at h2 e hc
    refine .inr ⟨b, f, e, by omega, by rw [hB]; exact hl, hl, by rw [hD]; have := h.1.num; omega, ?_, fun i hi => hc i _ (getD_map l i hi)⟩
    rw [hM]
    rintro rfl
    rw [h.2.1.tag] at ht
    exact h7 (by injection ht with ht; exact ht.symm)
theorem TP.mks {vs ars : List ByteArray} {Av A3 sa : Option Addr} {cv c3 sc nv na : Nat} {ss : List (ByteArray × Int × ByteArray)} {stmts : Int} (h : TP X M tc (mC X.D (.slice Av nv cv) (.slice A3 na c3) sa ss.length sc stmts) rows W) (env : vs.length = nv) (ena : ars.length = na)
    (hv : (Av, nv, cv, 1, vs.map Value.string) ∈ rows) (ha : (A3, na, c3, 1, ars.map Value.string) ∈ rows) (hs : Lies X.w0 (fun b => b ≠ X.D) sa ss.length sc 3 (ss.flatMap shCells))
    (hn : 0 < vs.length ∧ vs.length ≤ 5 ∧ ars.length ≤ 1 ∧ ss.length ≤ 1 ∧ (∀ x ∈ vs, Nm x) ∧ (∀ x ∈ ars, Nm x) ∧ (∀ x ∈ ss, Nm x.1 ∧ Nm x.2.2)) (hst : 0 ≤ stmts ∧ stmts ≤ 100) :
    Mks ⟨X.D, M, W.heap.size, X.v, X.zs, vs, ars, Av, A3, sa, cv, c3, sc, ss⟩ ⟨none, 0, [], ⟨#[]⟩, 0, stmts, 0⟩ W := by
  subst env ena
  have hnum := h.1.num
  have hMl := h.2.1.lt
  have hM0 := h.2.2
  refine ⟨h.1.deck, h.2.1, h.strs rfl rfl rfl rfl hv, h.strs rfl rfl rfl rfl ha, ?_, World.ownsRow_nil _ _ _ _, ⟨hn.1, hn.2.1, hn.2.2.1, hn.2.2.2.1, hn.2.2.2.2.1, hn.2.2.2.2.2.1, hn.2.2.2.2.2.2, ?_, hMl, ?_⟩, Nat.le_refl _, ⟨by simp, (fun x hx => by cases hx), by simp only; omega, hst, by simp only; omega, by simp, .inl rfl⟩⟩
  · obtain ⟨h1, h2, ⟨h3, h4, h5⟩ | ⟨b, f, e, hS, hl, hc⟩⟩ := hs
    · exact .inl ⟨List.eq_nil_of_length_eq_zero h3, h4, h5⟩
    · have hk : W.heap[b]? = X.w0.heap[b]? := h.1.gen.block b hl hS hS (fun q => by omega)
      have hsz := h.1.gen.size
      refine .inr ⟨b, f, e, h2, by show b < W.heap.size; omega, by omega, hS, by show b ≠ M; omega, fun i hi => ?_⟩
      have hg : ∀ k u, (shCells (ss.getD i (⟨#[]⟩, 0, ⟨#[]⟩)))[k]? = some u → W.cell? ⟨b, f + (i * 3 + k), none⟩ = some u := fun k u hu => by
        rw [World.cell?_of_block (a := ⟨b, f + (i * 3 + k), none⟩) hk]
        refine hc _ u (flat_at shCells 3 (fun _ => rfl) ss i k hi u ?_)
        rw [List.getD_eq_getElem?_getD, List.getElem?_eq_getElem hi] at hu
        exact hu
      exact ⟨hg 0 _ rfl, hg 1 _ rfl, hg 2 _ rfl⟩
  · show X.D < W.heap.size
    omega
  · show X.D < M
    omega
/-- Behind the body: the maker is no more. -/
theorem TP.body (h : TP X M tc mc rows W) (hd : Deck W' X.v X.zs X.D) (hg : Gen X.D M W.heap.size W W') : TT X tc rows W' := by
  obtain ⟨ht, hm, hM⟩ := h
  have hn := ht.num
  have hk : ∀ b, X.w0.heap.size ≤ b → b < W.heap.size → b ≠ M → W'.heap[b]? = W.heap[b]? := fun b hb hl hne => hg.block b hl (by omega) hne (fun q => by omega)
  have n1 : X.T ≠ M := tag_ne ht.tb.tag hm.tag (by decide)
  have n2 : X.R ≠ M := tag_ne ht.rb.tag hm.tag (by decide)
  refine ⟨hd, ?_, (hk _ (by omega) ht.tb.lt n1).trans ht.tb, (hk _ hn.2.1 ht.rb.lt n2).trans ht.rb, hn, fun r hr => (ht.row r hr).keep hg.size fun b hb hl => hk b hb.1 hl ?_⟩
  · have hl := ht.tb.lt
    have := ht.gen.size
    exact ⟨hg.os.trans ht.gen.os, hg.tape.trans ht.gen.tape, hg.output.trans ht.gen.output, Nat.le_trans ht.gen.size hg.size, fun b hb hD hD' _ => (hg.block b (by omega) hD (by omega) (fun q => by omega)).trans (ht.gen.block b hb hD hD' (fun q => by omega))⟩
  · rintro rfl
    obtain ⟨_, t, ht', _, _, h3⟩ := hb
    rw [hm.tag] at ht'
    exact h3 (by injection ht' with ht'; exact ht'.symm)
/-- With the body's tree. -/
structure TB (X : Tx) (tc : Array Value) (rows : List RowR) (t : Sts) (A : Option Addr) (W : World) : Prop where
  base : TT X tc rows W
  tree : t.At W (Fr X.w0.heap.size W) A
variable {t : Sts} {A : Option Addr}
theorem TB.keepT (h : t.At W (Fr X.w0.heap.size W) A) (hz : W.heap.size ≤ W'.heap.size) (hk : ∀ b, X.w0.heap.size ≤ b → Tr W b → b < W.heap.size → W'.heap[b]? = W.heap[b]?) : t.At W' (Fr X.w0.heap.size W') A :=
  h.keep hz fun b hb hl => by
    have e := hk b hb.1 hb.2 hl
    exact ⟨⟨hb.1, by unfold Tr; rw [tag_same e]; exact hb.2⟩, fun f => World.cell?_of_block e⟩
theorem TB.below (h : TB X tc rows t A W) (hb : Below W.heap.size W W') : TB X tc rows t A W' := ⟨h.base.below hb, TB.keepT h.tree hb.size fun b _ _ hl => hb.block b hl⟩
theorem TB.drew (h : TB X tc rows t A W) : TB X tc rows t A W.drew := h.below ⟨rfl, rfl, rfl, Nat.le_refl _, fun _ _ => rfl⟩
theorem TB.alloc (h : TB X tc rows t A W) (o : Obj) : TB X tc rows t A (W.alloc o) := h.below ((Below.refl _ _).alloc (Nat.le_refl _) o)
theorem TB.push (h : TB X tc rows t A W) {r : RowR} (hr : RowAt X.w0.heap.size W r) : TB X tc (r :: rows) t A W := ⟨h.base.push hr, h.tree⟩
theorem TB.setT (h : TB X tc rows t A W) (i : Nat) (u : Value) : TB X (tc.setIfInBounds i u) rows t A (W.setCell ⟨X.T, i, none⟩ u) :=
  ⟨h.base.setT i u, TB.keepT h.tree (by simp) fun b _ hb _ => Below.heap_setCell W _ u b (by
    rintro rfl
    have h2 := h.base.tb.tag
    rcases hb with hb | hb <;> (change tagOf W X.T = _ at hb; rw [h2] at hb; exact absurd hb (by decide)))⟩
theorem TB.next (h : TB X tc rows t A W) (n : Int) (hn : 0 ≤ n ∧ n ≤ 1000000) :
    Calls Tryd.prog 30 #[.pointer (some ⟨X.D, 0, none⟩), .int .i64 n] W fun e w' => ∃ r : Int, e = .returned (.int .i64 r) ∧ In n r ∧ TB X tc rows t A w' :=
  (next_any n X.D X.v X.zs W h.base.deck hn).mono fun e w' ⟨r, he, h0, h1, hd, hg⟩ => ⟨r, he, ⟨h0, h1⟩, h.base.stepD hd hg, TB.keepT h.tree hg.size fun b hb _ hl => hg.block b hl (by have := h.base.num; omega) (by have := h.base.num; omega) (fun q => by omega)⟩
end
theorem own_down {W : World} {B B' n size : Nat} {e : TypeId} {v : Value} {xs : List Value} (h : W.ownsRow B e size v n xs) (hb : B' ≤ B) : W.ownsRow B' e size v n xs := by
  obtain ⟨h1, h2 | ⟨g, cap, cur, e1, h3, h4⟩⟩ := h
  · exact ⟨h1, .inl h2⟩
  · exact ⟨h1, .inr ⟨g, cap, cur, e1, by omega, h4⟩⟩
def ClOk (cl : List (Int × Int)) : Prop := cl.length ≤ 1 ∧ ∀ x ∈ cl, (1 ≤ x.1 ∧ x.1 ≤ 12) ∧ (1 ≤ x.2 ∧ x.2 ≤ 12)
namespace Sts
def take : Nat → Sts → Sts
  | 0, _ => nil
  | _ + 1, nil => nil
  | n + 1, cons k s i v m l t e r => cons k s i v m l t e (r.take n)
theorem take_len : ∀ (t : Sts) (n : Nat), (t.take n).len = min n t.len
  | t, 0 => by cases t <;> simp [take, len]
  | nil, n + 1 => by simp [take, len]
  | cons _ _ _ _ _ _ _ _ r, n + 1 => by simp only [take, len, take_len r n]; omega
theorem take_height : ∀ (t : Sts) (n : Nat), (t.take n).height ≤ t.height
  | t, 0 => by cases t <;> simp [take, height]
  | nil, n + 1 => Nat.le_refl _
  | cons _ _ _ _ _ _ _ _ r, n + 1 => by have := take_height r n; simp only [take, height]; omega
theorem take_all : ∀ (t : Sts), t.take t.len = t
  | nil => rfl
  | cons _ _ _ _ _ _ _ _ r => by simp only [len, take, take_all r]
theorem take_take : ∀ (t : Sts) (n k : Nat), k ≤ n → (t.take n).take k = t.take k
  | t, n, 0, _ => by cases t <;> cases n <;> rfl
  | nil, n + 1, k + 1, _ => rfl
  | cons _ _ _ _ _ _ _ _ r, n + 1, k + 1, h => by simp only [take, take_take r n k (by omega)]
theorem Good.take : ∀ {t : Sts} (_ : t.Good) (n : Nat), (t.take n).Good
  | t, _, 0 => by cases t <;> trivial
  | nil, _, n + 1 => trivial
  | cons _ _ _ _ _ _ _ _ r, ⟨h1, h2, h3, h4, h5, hr⟩, n + 1 => ⟨h1, h2, h3, h4, h5, Good.take hr n⟩
theorem At.take {w : World} {S : Nat → Prop} : ∀ {t : Sts} {A : Option Addr} (_ : t.At w S A) (n : Nat), (t.take n).At w S A
  | t, _, _, 0 => by cases t <;> trivial
  | nil, _, _, n + 1 => trivial
  | cons _ _ _ _ _ _ _ _ r, A, ⟨b, f, e, h1, h2, h3, h4, h5, h6, h7, h8, h9, h10, hr⟩, n + 1 => ⟨b, f, e, h1, h2, h3, h4, h5, h6, h7, h8, h9, h10, At.take hr n⟩
end Sts
abbrev set11 (w : World) (g : Nat) (b0 b1 b2 b3 b4 b5 b6 b7 b8 b9 b10 : Value) : World := (((((((((((w).setCell ⟨g, 0, none⟩ b0).setCell ⟨g, 1, none⟩ b1).setCell ⟨g, 2, none⟩ b2).setCell ⟨g, 3, none⟩ b3).setCell ⟨g, 4, none⟩ b4).setCell ⟨g, 5, none⟩ b5).setCell ⟨g, 6, none⟩ b6).setCell ⟨g, 7, none⟩ b7).setCell ⟨g, 8, none⟩ b8).setCell ⟨g, 9, none⟩ b9).setCell ⟨g, 10, none⟩ b10
theorem Blk.set11 {w : World} {g : Nat} {t : TypeId} {a0 a1 a2 a3 a4 a5 a6 a7 a8 a9 a10 b0 b1 b2 b3 b4 b5 b6 b7 b8 b9 b10 : Value} (h : Blk w g t #[a0, a1, a2, a3, a4, a5, a6, a7, a8, a9, a10]) : Blk (set11 w g b0 b1 b2 b3 b4 b5 b6 b7 b8 b9 b10) g t #[b0, b1, b2, b3, b4, b5, b6, b7, b8, b9, b10] := by
  have x0 : Blk _ g t #[b0, a1, a2, a3, a4, a5, a6, a7, a8, a9, a10] := h.set 0 b0
  have x1 : Blk _ g t #[b0, b1, a2, a3, a4, a5, a6, a7, a8, a9, a10] := x0.set 1 b1
  have x2 : Blk _ g t #[b0, b1, b2, a3, a4, a5, a6, a7, a8, a9, a10] := x1.set 2 b2
  have x3 : Blk _ g t #[b0, b1, b2, b3, a4, a5, a6, a7, a8, a9, a10] := x2.set 3 b3
  have x4 : Blk _ g t #[b0, b1, b2, b3, b4, a5, a6, a7, a8, a9, a10] := x3.set 4 b4
  have x5 : Blk _ g t #[b0, b1, b2, b3, b4, b5, a6, a7, a8, a9, a10] := x4.set 5 b5
  have x6 : Blk _ g t #[b0, b1, b2, b3, b4, b5, b6, a7, a8, a9, a10] := x5.set 6 b6
  have x7 : Blk _ g t #[b0, b1, b2, b3, b4, b5, b6, b7, a8, a9, a10] := x6.set 7 b7
  have x8 : Blk _ g t #[b0, b1, b2, b3, b4, b5, b6, b7, b8, a9, a10] := x7.set 8 b8
  have x9 : Blk _ g t #[b0, b1, b2, b3, b4, b5, b6, b7, b8, b9, a10] := x8.set 9 b9
  have x10 : Blk _ g t #[b0, b1, b2, b3, b4, b5, b6, b7, b8, b9, b10] := x9.set 10 b10
  exact x10
theorem Blk.eleven {w : World} {g : Nat} {t : TypeId} {a0 a1 a2 a3 a4 a5 a6 a7 a8 a9 a10 : Value} (h : Blk w g t #[a0, a1, a2, a3, a4, a5, a6, a7, a8, a9, a10]) :
    (w.cell? ⟨g, 0, none⟩ = some a0 ∧ w.cell? ⟨g, 1, none⟩ = some a1 ∧ w.cell? ⟨g, 2, none⟩ = some a2 ∧ w.cell? ⟨g, 3, none⟩ = some a3 ∧ w.cell? ⟨g, 4, none⟩ = some a4 ∧ w.cell? ⟨g, 5, none⟩ = some a5 ∧ w.cell? ⟨g, 6, none⟩ = some a6 ∧ w.cell? ⟨g, 7, none⟩ = some a7 ∧ w.cell? ⟨g, 8, none⟩ = some a8 ∧ w.cell? ⟨g, 9, none⟩ = some a9 ∧ w.cell? ⟨g, 10, none⟩ = some a10) ∧ w.frozen? ⟨g, 0, none⟩ = false ∧ w.frozen? ⟨g, 1, none⟩ = false ∧ w.frozen? ⟨g, 2, none⟩ = false ∧ w.frozen? ⟨g, 3, none⟩ = false ∧ w.frozen? ⟨g, 4, none⟩ = false ∧ w.frozen? ⟨g, 5, none⟩ = false ∧ w.frozen? ⟨g, 6, none⟩ = false ∧ w.frozen? ⟨g, 7, none⟩ = false ∧ w.frozen? ⟨g, 8, none⟩ = false ∧ w.frozen? ⟨g, 9, none⟩ = false ∧ w.frozen? ⟨g, 10, none⟩ = false :=
  ⟨⟨h.cell 0, h.cell 1, h.cell 2, h.cell 3, h.cell 4, h.cell 5, h.cell 6, h.cell 7, h.cell 8, h.cell 9, h.cell 10⟩, h.frozen 0, h.frozen 1, h.frozen 2, h.frozen 3, h.frozen 4, h.frozen 5, h.frozen 6, h.frozen 7, h.frozen 8, h.frozen 9, h.frozen 10⟩
theorem set11_heap {w : World} {g q : Nat} {b0 b1 b2 b3 b4 b5 b6 b7 b8 b9 b10 : Value} (hq : q ≠ g) : (set11 w g b0 b1 b2 b3 b4 b5 b6 b7 b8 b9 b10).heap[q]? = w.heap[q]? := by
  unfold set11
  repeat rw [Below.heap_setCell _ _ _ _ (by exact hq)]
theorem set11_size {w : World} {g : Nat} {b0 b1 b2 b3 b4 b5 b6 b7 b8 b9 b10 : Value} : (set11 w g b0 b1 b2 b3 b4 b5 b6 b7 b8 b9 b10).heap.size = w.heap.size := by simp [set11]
theorem row_cell {W : World} {b f b' f' k : Nat} {xs : List Value} {u : Value} (e : (some ⟨b, f, none⟩ : Option Addr) = some ⟨b', f', none⟩) (hc : ∀ j u, xs[j]? = some u → W.cell? ⟨b', f' + j, none⟩ = some u) (h : xs[k]? = some u) : W.cell? ⟨b, f + k, none⟩ = some u := by
  injection e with e
  injection e with e1 e2
  subst e1 e2
  exact hc k u h
theorem iv_at (L : List Int) (k : Nat) (h : k < L.length) : (iv L)[k]? = some (.int .i64 (L.getD k 0)) := by
  rw [List.getElem?_map, List.getElem?_eq_getElem h, List.getD_eq_getElem?_getD, List.getElem?_eq_getElem h]
  rfl
theorem getD_mem (L : List Int) (k : Nat) (h : k < L.length) : L.getD k 0 ∈ L := by
  rw [List.getD_eq_getElem?_getD, List.getElem?_eq_getElem h]
  exact List.getElem_mem h
theorem iv_get (L : List Int) (k : Nat) (h : k < L.length) : ∃ x, (iv L)[k]? = some (.int .i64 x) ∧ x ∈ L := ⟨L.getD k 0, iv_at L k h, getD_mem L k h⟩
theorem iv_fun (L : List Int) : ∃ g : Nat → Int, ∀ j, j < L.length → (iv L)[j]? = some (.int .i64 (g j)) ∧ g j ∈ L := ⟨fun j => L.getD j 0, fun j h => ⟨iv_at L j h, getD_mem L j h⟩⟩
theorem rows_cells {W : World} {b f b' f' : Nat} {L : List Int} {g : Nat → Int} (hg : ∀ j, j < L.length → (iv L)[j]? = some (.int .i64 (g j)) ∧ g j ∈ L) (e : (some ⟨b, f, none⟩ : Option Addr) = some ⟨b', f', none⟩) (hc : ∀ j u, (iv L)[j]? = some u → W.cell? ⟨b', f' + j, none⟩ = some u) : ∀ j, j < L.length → W.cell? ⟨b, f + j, none⟩ = some (.int .i64 (g j)) := fun j hj => row_cell e hc (hg j hj).1
theorem idx_mod (a : Nat) (r : Int) (n : Nat) (ha : a < n) (h0 : 0 ≤ r) (hn : r < n) : ∃ k : Nat, k < n ∧ Int.tmod ((a : Int) + 1 + r) n = k := by
  have h1 : 0 ≤ Int.tmod ((a : Int) + 1 + r) n := Int.tmod_nonneg _ (by omega)
  have h2 : Int.tmod ((a : Int) + 1 + r) n < n := Int.tmod_lt_of_pos _ (by omega)
  exact ⟨(Int.tmod ((a : Int) + 1 + r) n).toNat, by omega, by omega⟩
theorem take_facts {t : Sts} {W : World} {S : Nat → Prop} {A : Option Addr} (hg : t.Good) (hh : t.height ≤ 4) (hl : t.len ≤ 10) (ha : t.At W S A) (k : Nat) (hk : k ≤ t.len) : (t.take k).len = k ∧ (t.take k).Good ∧ (t.take k).height ≤ 4 ∧ (t.take k).Wf ∧ (t.take k).len ≤ maxLen ∧ (t.take k).cnt ≤ 1000000 ∧ (t.take k).At W S A := by
  have h1 : (t.take k).len = k := by rw [Sts.take_len]; omega
  have h2 := hg.take k
  have h3 : (t.take k).height ≤ 4 := Nat.le_trans (Sts.take_height t k) hh
  exact ⟨h1, h2, h3, h2.wf, by rw [h1]; unfold maxLen; omega, cnt_body h2 h3 (by omega), ha.take k⟩
theorem ifs_any (a : Sts) (A : Option Addr) (c : Nat) (S : Nat → Prop) (w : World) (hwf : a.Wf) (hlen : a.len ≤ maxLen) (hcnt : a.cnt ≤ 1000000) (hat : a.At w S A) :
    Calls Tryd.prog 46 #[.slice A a.len c] w fun e w' => ∃ v, e = .returned v ∧ w'.ownsRow w.heap.size 3 1 v (labsD a 1 3).length (iv (labsD a 1 3)) ∧ Below w.heap.size w w' := by
  have H := Lib.hid (fun (W : World) (h : Below w.heap.size w W) => rlabs_any 3 (.inr (.inl rfl)) a.height a A c 1 S W rfl hwf hlen hcnt (hat.keep h.size fun q hq hl => ⟨hq, fun f => h.cell (p := ⟨q, f, none⟩) hl⟩) (by omega) (by omega))
  clear hwf hlen hcnt hat
  go_enter Tryd.func46, Tryd.ntmps46
  go_wp2_with fail
  refine (H.out _ (Below.refl _ _)).mono ?_
  rintro e w1 ⟨v, rfl, hown, hb⟩
  have HO := Lib.hid (And.intro hown hb)
  clear hown hb
  go_wp2_with fail
  go_ret
  exact ⟨v, rfl, HO.out.1, HO.out.2⟩
theorem weight_any (a : Sts) (A : Option Addr) (c : Nat) (S : Nat → Prop) (w : World) (hwf : a.Wf) (hlen : a.len ≤ maxLen) (hat : a.At w S A) :
    Calls Tryd.prog 47 #[.slice A a.len c] w fun e w' => e = .returned (.int .i64 (stW a.len 1 (a.wadd 1 0))) ∧ Below w.heap.size w w' := by
  have H := Lib.hid (fun (W : World) (h : Below w.heap.size w W) => rweight_any a.height a A c 1 S W rfl hwf hlen (hat.keep h.size fun q hq hl => ⟨hq, fun f => h.cell (p := ⟨q, f, none⟩) hl⟩) (by omega) (by omega))
  clear hwf hlen hat
  go_enter Tryd.func47, Tryd.ntmps47
  go_wp2_with fail
  refine (H.out _ (Below.refl _ _)).mono ?_
  rintro e w1 ⟨rfl, hb⟩
  have HO := Lib.hid hb
  clear hb
  go_wp2_with fail
  go_ret
  exact ⟨rfl, HO.out⟩
end Go.Proofs.YtbppfhlpielpcaaDoor
