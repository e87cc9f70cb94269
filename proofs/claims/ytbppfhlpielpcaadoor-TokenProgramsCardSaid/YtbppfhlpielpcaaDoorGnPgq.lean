/- A program in the making: what is known of it between the generator's steps. A program in the making: with the row of its tasks. -/
import Derived.Test.YtbppfhlpielpcaaDoorGnTsm
import Derived.Test.YtbppfhlpielpcaaDoorGnTask
import Derived.Deep.AppendLies
namespace Go.Proofs.YtbppfhlpielpcaaDoor
open Go.RowKit
set_option linter.unusedVariables false
/-- Blocks from n on that are rows: neither a deck's nor a program's. -/
def SxP (n : Nat) (W : World) (b : Nat) : Prop := n ≤ b ∧ ∃ t, tagOf W b = some t ∧ t ≠ 49 ∧ t ≠ 32 ∧ t ≠ 66
def RowAtP (n : Nat) (W : World) (r : RowR) : Prop := Lies W (SxP n W) r.1 r.2.1 r.2.2.1 r.2.2.2.1 r.2.2.2.2
theorem sxp_keep {n : Nat} {W W' : World} (hk : ∀ b, SxP n W b → b < W.heap.size → W'.heap[b]? = W.heap[b]?) : ∀ b, SxP n W b → b < W.heap.size → SxP n W' b ∧ ∀ f, W'.cell? ⟨b, f, none⟩ = W.cell? ⟨b, f, none⟩ := fun b hb hl => by
  have e := hk b hb hl
  refine ⟨⟨hb.1, ?_⟩, fun f => World.cell?_of_block e⟩
  rw [tag_same e]
  exact hb.2
theorem RowAtP.keep {n : Nat} {W W' : World} {r : RowR} (h : RowAtP n W r) (hz : W.heap.size ≤ W'.heap.size) (hk : ∀ b, SxP n W b → b < W.heap.size → W'.heap[b]? = W.heap[b]?) : RowAtP n W' r := Lies.keep h hz (sxp_keep hk)
/-- A cell of a row that is not empty. -/
theorem RowAtP.cells {n k c size : Nat} {W : World} {A : Option Addr} {xs : List Value} (h : RowAtP n W (A, k, c, size, xs)) (hk : 0 < k) : ∃ b f, A = some ⟨b, f, none⟩ ∧ ∀ j u, xs[j]? = some u → W.cell? ⟨b, f + j, none⟩ = some u := by
  obtain ⟨_, _, ⟨h0, _⟩ | ⟨b, f, e, _, _, hc⟩⟩ := h
  · simp only at h0; omega
  · exact ⟨b, f, e, hc⟩
abbrev zPg : Array Value := #[.slice none 0 0, .slice none 0 0, .slice none 0 0]
/-- The deck's block, the result's, the program's; the list; the world at first. -/
structure Px where
  (D R T : Nat) (v : Value) (zs : List Int) (w0 : World)
structure TG (X : Px) (tc : Array Value) (rows : List RowR) (W : World) : Prop where
  deck : Deck W X.v X.zs X.D
  gen : Gen X.D X.D X.w0.heap.size X.w0 W
  tb : Blk W X.T 32 tc
  rb : Blk W X.R 32 zPg
  num : X.D < X.w0.heap.size ∧ X.w0.heap.size ≤ X.R ∧ X.R < X.T
  row : ∀ r ∈ rows, RowAtP X.w0.heap.size W r
section
variable {X : Px} {tc : Array Value} {rows : List RowR} {W W' : World}
theorem TG.keep (h : TG X tc rows W) (hd : Deck W' X.v X.zs X.D) (hg : Gen X.D X.D X.w0.heap.size X.w0 W') (hz : W.heap.size ≤ W'.heap.size) (hk : ∀ b, X.w0.heap.size ≤ b → b < W.heap.size → W'.heap[b]? = W.heap[b]?) : TG X tc rows W' :=
  ⟨hd, hg, (hk _ (by have := h.num; omega) h.tb.lt).trans h.tb, (hk _ h.num.2.1 h.rb.lt).trans h.rb, h.num, fun r hr => (h.row r hr).keep hz fun b hb hl => hk b hb.1 hl⟩
theorem TG.below (h : TG X tc rows W) (hb : Below W.heap.size W W') : TG X tc rows W' :=
  h.keep (h.deck.below hb) (h.gen.trans (Gen.below hb _ _ _)) hb.size fun b _ hl => hb.block b hl
theorem TG.drew (h : TG X tc rows W) : TG X tc rows W.drew := h.below ⟨rfl, rfl, rfl, Nat.le_refl _, fun _ _ => rfl⟩
theorem TG.alloc (h : TG X tc rows W) (o : Obj) : TG X tc rows (W.alloc o) := h.below ((Below.refl _ _).alloc (Nat.le_refl _) o)
theorem TG.stepD (h : TG X tc rows W) (hd : Deck W' X.v X.zs X.D) (hg : Gen X.D X.D W.heap.size W W') : TG X tc rows W' :=
  h.keep hd (h.gen.trans (hg.only X.D X.w0.heap.size)) hg.size fun b hb hl => hg.block b hl (by have := h.num; omega) (by have := h.num; omega) (fun q => by omega)
/-- A cell of the task is set. -/
theorem TG.setT (h : TG X tc rows W) (i : Nat) (u : Value) : TG X (tc.setIfInBounds i u) rows (W.setCell ⟨X.T, i, none⟩ u) := by
  have hk : ∀ b, b ≠ X.T → (W.setCell ⟨X.T, i, none⟩ u).heap[b]? = W.heap[b]? := fun b hb => Below.heap_setCell W _ u b hb
  have hn := h.num
  refine ⟨h.deck.keep (by simp) (hk _ (by omega)) fun b hb => hk b (by omega), h.gen.set (.inr (.inr (by show X.w0.heap.size ≤ X.T; omega))) u, h.tb.set i u, (hk _ (by omega)).trans h.rb, hn, fun r hr => (h.row r hr).keep (by simp) fun b hb hl => hk b ?_⟩
  rintro rfl
  obtain ⟨_, t, ht, _, h2, _⟩ := hb
  have := h.tb.tag
  rw [ht] at this
  exact h2 (by injection this)
/-- One more row. -/
theorem TG.push (h : TG X tc rows W) {r : RowR} (hr : RowAtP X.w0.heap.size W r) : TG X tc (r :: rows) W := ⟨h.deck, h.gen, h.tb, h.rb, h.num, fun x hx => by
  rcases List.mem_cons.1 hx with rfl | hx
  · exact hr
  · exact h.row x hx⟩
theorem TG.next (h : TG X tc rows W) (n : Int) (hn : 0 ≤ n ∧ n ≤ 1000000) :
    Calls Tryd.prog 30 #[.pointer (some ⟨X.D, 0, none⟩), .int .i64 n] W fun e w' => ∃ r : Int, e = .returned (.int .i64 r) ∧ In n r ∧ TG X tc rows w' :=
  (next_any n X.D X.v X.zs W h.deck hn).mono fun e w' ⟨r, he, h0, h1, hd, hg⟩ => ⟨r, he, ⟨h0, h1⟩, h.stepD hd hg⟩
/-- A step that changes one row, which is of none of these blocks. -/
theorem TG.grown (h : TG X tc rows W) {e : TypeId} {k size : Nat} {v : Value} {xs : List Value} (ho : W.ownsRow X.w0.heap.size e size v k xs) (he : e ≠ 49 ∧ e ≠ 32) (hg : W.grownBy W' v.ownBlock)
    (hrow : ∀ r ∈ rows, ∀ b f, r.1 = some ⟨b, f, none⟩ → v.ownBlock ≠ some b) : TG X tc rows W' := by
  have hn := h.num
  have hlt := fun g q => ho.lt g q
  have hk : ∀ b, b < W.heap.size → some b ≠ v.ownBlock → W'.heap[b]? = W.heap[b]? := hg.block
  have hne : ∀ {b : Nat} {t : TypeId}, tagOf W b = some t → e ≠ t → some b ≠ v.ownBlock := fun hb h2 q => by
    have := (own_tag ho q.symm).1
    rw [hb] at this
    exact h2 (by injection this with this; exact this.symm)
  refine ⟨h.deck.keep hg.size (hk _ (by have := h.tb.lt; omega) (fun q => by have := (hlt _ q.symm).1; omega)) fun b hb => hk b (by have := h.tb.lt; omega) (fun q => by have := (hlt _ q.symm).1; omega), gen_grown h.gen hg fun q hq => (hlt q hq).1, (hk _ h.tb.lt (hne h.tb.tag he.2)).trans h.tb, (hk _ h.rb.lt (hne h.rb.tag he.2)).trans h.rb, hn, fun r hr => ?_⟩
  obtain ⟨q1, q2, q3 | ⟨b, f, e1, hS, hl, hc⟩⟩ := h.row r hr
  · exact ⟨q1, q2, .inl q3⟩
  · have hb := hk b hl fun q => hrow r hr b f e1 q.symm
    exact ⟨q1, q2, .inr ⟨b, f, e1, ⟨hS.1, by rw [tag_same hb]; exact hS.2⟩, by have := hg.size; omega, fun j u hu => (World.cell?_of_block hb).trans (hc j u hu)⟩⟩
/-- With the row of resources in the making. -/
structure TGr (X : Px) (tc : Array Value) (l : List ByteArray) (v0 : Value) (W : World) : Prop where
  p : TG X tc [] W
  own : W.ownsRow X.w0.heap.size 9 1 v0 l.length (l.map Value.string)
variable {l : List ByteArray} {v0 : Value}
theorem TGr.below (h : TGr X tc l v0 W) (hb : Below W.heap.size W W') : TGr X tc l v0 W' := ⟨h.p.below hb, own_keep h.own hb.size fun g hg => hb.block g (own_tag h.own hg).2.1⟩
theorem TGr.drew (h : TGr X tc l v0 W) : TGr X tc l v0 W.drew := h.below ⟨rfl, rfl, rfl, Nat.le_refl _, fun _ _ => rfl⟩
theorem TGr.alloc (h : TGr X tc l v0 W) (o : Obj) : TGr X tc l v0 (W.alloc o) := h.below ((Below.refl _ _).alloc (Nat.le_refl _) o)
theorem TGr.setT (h : TGr X tc l v0 W) (i : Nat) (u : Value) : TGr X (tc.setIfInBounds i u) l v0 (W.setCell ⟨X.T, i, none⟩ u) := ⟨h.p.setT i u, own_far h.own h.p.tb (by decide) i u⟩
theorem TGr.app (h : TGr X tc l v0 W) {x : ByteArray} {v' : Value} (hown : W'.ownsRow X.w0.heap.size 9 1 v' (l.length + 1) (l.map Value.string ++ [Value.string x])) (hg : W.grownBy W' v0.ownBlock) : TGr X tc (l ++ [x]) v' W' :=
  ⟨h.p.grown h.own (by decide) hg (fun r hr => by cases hr), by simpa using hown⟩
theorem TGr.next (h : TGr X tc l v0 W) (n : Int) (hn : 0 ≤ n ∧ n ≤ 1000000) :
    Calls Tryd.prog 30 #[.pointer (some ⟨X.D, 0, none⟩), .int .i64 n] W fun e w' => ∃ r : Int, e = .returned (.int .i64 r) ∧ In n r ∧ TGr X tc l v0 w' :=
  (next_any n X.D X.v X.zs W h.p.deck hn).mono fun e w' ⟨r, he, h0, h1, hd, hg⟩ => ⟨r, he, ⟨h0, h1⟩, h.p.stepD hd hg, own_keep h.own hg.size fun g q => hg.block g (own_tag h.own q).2.1 (by have := (own_tag h.own q).2.2; have := h.p.num; omega) (by have := (own_tag h.own q).2.2; have := h.p.num; omega) (fun q' => by have := (own_tag h.own q).2.1; omega)⟩
end
end Go.Proofs.YtbppfhlpielpcaaDoor
namespace Go.Proofs.YtbppfhlpielpcaaDoor
open Go.RowKit
set_option linter.unusedVariables false
abbrev nilV : Value := .slice none 0 0
def PgPost (D : Nat) (v : Value) (zs : List Int) (w : World) (e : Ending) (w' : World) : Prop :=
  ∃ (p : Pg) (vv : Value), e = .returned vv ∧ p.Ok ∧ p.At w' (fun b => b ≠ D ∧ w.heap.size ≤ b) vv ∧ Deck w' v zs D ∧ Gen D D w.heap.size w w'
theorem In.rngP {n r : Int} (h : In n r) (hn : 1 ≤ n) : 0 ≤ r ∧ r < n := ⟨h.1, by have := h.1; have := h.2; omega⟩
theorem TG.start {D : Nat} {v : Value} {zs : List Int} {w : World} (hd : Deck w v zs D) : TG ⟨D, w.heap.size, w.heap.size + 1, v, zs, w⟩ zPg [] ((w.alloc (.cells zPg 32)).alloc (.cells zPg 32)) := by
  have hb : Below w.heap.size w ((w.alloc (.cells zPg 32)).alloc (.cells zPg 32)) := ((Below.refl _ _).alloc (Nat.le_refl _) _).alloc (by simp) _
  exact ⟨hd.below hb, Gen.below hb _ _ _, by have := Blk.new (w.alloc (.cells zPg 32)) 32 zPg; simpa using this, (Blk.new w _ _).alloc _, ⟨hd.lt, Nat.le_refl _, Nat.lt_succ_self _⟩, fun r hr => by cases hr⟩
theorem Tryd.infoSh : (Tryd.prog.info? 70).map (fun i => (i.zero, i.size, i.bytes)) = some (some (.agg #[.string ⟨#[]⟩, .int .i64 0, .string ⟨#[]⟩]), 3, 40) := by kernel_rfl
theorem rowp_own {W : World} {n k size : Nat} {e : TypeId} {v : Value} {xs : List Value} (h : W.ownsRow n e size v k xs) (ht : e ≠ 49 ∧ e ≠ 32 ∧ e ≠ 66) (hl : xs.length = k * size) : ∃ A c, v = .slice A k c ∧ RowAtP n W (A, k, c, size, xs) :=
  Lies.own h (fun b hb hm => ⟨hb, e, hm, ht⟩) hl
theorem TG.first {X : Px} {tc : Array Value} {rows : List RowR} {W : World} {b f n c : Nat} {x : ByteArray} {l : List ByteArray} (h : TG X tc rows W) (hr : (some ⟨b, f, none⟩, (x :: l).length, c, 1, (x :: l).map Value.string) ∈ rows) : W.cell? ⟨b, f, none⟩ = some (.string x) := by
  obtain ⟨b', f', e, hc⟩ := RowAtP.cells (h.row _ hr) (by simp)
  injection e with e
  injection e with e1 e2
  subst e1 e2
  have := hc 0 (.string x) rfl
  rw [Nat.add_zero] at this
  exact this
theorem pow_8 (m : Nat) (h : m ≤ 3) : 1 ≤ IntKind.i64.wrap ((2 : Int) ^ m) ∧ IntKind.i64.wrap ((2 : Int) ^ m) ≤ 8 :=
  (show ∀ k, k < 4 → 1 ≤ IntKind.i64.wrap ((2 : Int) ^ k) ∧ IntKind.i64.wrap ((2 : Int) ^ k) ≤ 8 by decide +kernel) m (by omega)
/-- Where tasks' rows and trees lie. -/
def SxT (X : Px) (v2 : Value) (b : Nat) : Prop := X.w0.heap.size ≤ b ∧ b ≠ X.R ∧ b ≠ X.T ∧ v2.ownBlock ≠ some b
structure TGt (X : Px) (tc : Array Value) (rows : List RowR) (tl : List Tsk) (xs : List Value) (v2 : Value) (W : World) : Prop where
  p : TG X tc rows W
  own : W.ownsRow X.w0.heap.size 66 11 v2 tl.length xs
  ts : Tsks W (SxT X v2) tl xs
section
variable {X : Px} {tc : Array Value} {rows : List RowR} {W W' : World} {tl : List Tsk} {xs ys : List Value} {v2 : Value} {t : Tsk}
theorem TGt.below (h : TGt X tc rows tl xs v2 W) (hb : Below W.heap.size W W') : TGt X tc rows tl xs v2 W' :=
  ⟨h.p.below hb, own_keep h.own hb.size fun g hg => hb.block g (own_tag h.own hg).2.1, h.ts.keep hb.size fun b hs hl => ⟨hs, fun f => World.cell?_of_block (hb.block b hl)⟩⟩
theorem TGt.drew (h : TGt X tc rows tl xs v2 W) : TGt X tc rows tl xs v2 W.drew := h.below ⟨rfl, rfl, rfl, Nat.le_refl _, fun _ _ => rfl⟩
theorem TGt.alloc (h : TGt X tc rows tl xs v2 W) (o : Obj) : TGt X tc rows tl xs v2 (W.alloc o) := h.below ((Below.refl _ _).alloc (Nat.le_refl _) o)
theorem TGt.setT (h : TGt X tc rows tl xs v2 W) (i : Nat) (u : Value) : TGt X (tc.setIfInBounds i u) rows tl xs v2 (W.setCell ⟨X.T, i, none⟩ u) :=
  ⟨h.p.setT i u, own_far h.own h.p.tb (by decide) i u, h.ts.keep (by simp) fun b hs hl => ⟨hs, fun f => World.cell?_of_block (Below.heap_setCell W _ u b hs.2.2.1)⟩⟩
theorem TGt.call (h : TGt X tc rows tl xs v2 W) (hr : t.Row W' (fun b => b ≠ X.D ∧ W.heap.size ≤ b) ys) (hd : Deck W' X.v X.zs X.D) (hg : Gen X.D X.D W.heap.size W W') : TGt X tc rows tl xs v2 W' ∧ t.Row W' (SxT X v2) ys := by
  have hn := h.p.num
  have hT := h.p.tb.lt
  have hR := h.p.rb.lt
  have hG := h.p.gen.size
  refine ⟨⟨h.p.stepD hd hg, own_keep h.own hg.size fun g q => ?_, h.ts.keep hg.size fun b hs hl => ⟨hs, fun f => World.cell?_of_block (hg.block b hl ?_ ?_ (fun q => by omega))⟩⟩, hr.keep (Nat.le_refl _) fun b hs hl => ⟨⟨by omega, by omega, by omega, fun q => ?_⟩, fun f => rfl⟩⟩
  · have ho := own_tag h.own q
    exact hg.block g ho.2.1 (by omega) (by omega) (fun q' => by omega)
  · have := hs.1; omega
  · have := hs.1; omega
  · have := (own_tag h.own q).2.1; omega
theorem TGt.app (h : TGt X tc rows tl xs v2 W) (hr : t.Row W (SxT X v2) ys) {g cap : Nat} (hown : W'.ownsRow X.w0.heap.size 66 11 (.slice (some ⟨g, 0, none⟩) (tl.length + 1) cap) (tl.length + 1) (xs ++ ys)) (hg : W.grownBy W' v2.ownBlock) (hgo : v2.ownBlock = some g ∨ g = W.heap.size) :
    TGt X tc rows (tl ++ [t]) (xs ++ ys) (.slice (some ⟨g, 0, none⟩) (tl.length + 1) cap) W' := by
  have hk : ∀ b, SxT X v2 b → b < W.heap.size → SxT X (.slice (some ⟨g, 0, none⟩) (tl.length + 1) cap) b ∧ ∀ f, W'.cell? ⟨b, f, none⟩ = W.cell? ⟨b, f, none⟩ := fun b hs hl => by
    refine ⟨⟨hs.1, hs.2.1, hs.2.2.1, fun q => ?_⟩, fun f => World.cell?_of_block (hg.block b hl fun q => hs.2.2.2 q.symm)⟩
    have q' : some g = some b := q
    injection q' with q'
    rcases hgo with hgo | hgo
    · exact hs.2.2.2 (by rw [hgo, q'])
    · omega
  refine ⟨h.p.grown h.own (by decide) hg fun r hr b f e q => ?_, by simpa using hown, Tsks.app (hr.keep hg.size hk) (h.ts.keep hg.size hk)⟩
  have h1 := (own_tag h.own q).1
  obtain ⟨_, _, ⟨_, h3, _⟩ | ⟨b', f', e', hS, _⟩⟩ := h.p.row r hr
  · rw [h3] at e; cases e
  · rw [e'] at e
    injection e with e
    injection e with e1 e2
    subst e1
    obtain ⟨_, t', ht, _, _, h4⟩ := hS
    rw [h1] at ht
    injection ht with ht
    exact h4 ht.symm
/-- The program, when its three rows are there, behind whatever changes block R alone. -/
theorem TGt.fin {l : List ByteArray} {shs : List (ByteArray × Int × ByteArray)} {A0 A1 A2 : Option Addr} {c0 c1 c2 : Nat} (h : TGt X tc rows tl xs (.slice A2 tl.length c2) W) (h0 : (A0, l.length, c0, 1, l.map Value.string) ∈ rows) (h1 : (A1, shs.length, c1, 3, shs.flatMap shCells) ∈ rows)
    (hs : W'.heap.size = W.heap.size) (hk : ∀ b, b ≠ X.R → W'.heap[b]? = W.heap[b]?) (ho : W'.os = W.os ∧ W'.tape = W.tape ∧ W'.output = W.output) :
    (⟨l, shs, tl⟩ : Pg).At W' (fun b => b ≠ X.D ∧ X.w0.heap.size ≤ b) (.agg #[.slice A0 l.length c0, .slice A1 shs.length c1, .slice A2 tl.length c2]) ∧ Deck W' X.v X.zs X.D ∧ Gen X.D X.D X.w0.heap.size X.w0 W' := by
  have hn := h.p.num
  have hrow : ∀ r ∈ rows, Lies W' (fun b => b ≠ X.D ∧ X.w0.heap.size ≤ b) r.1 r.2.1 r.2.2.1 r.2.2.2.1 r.2.2.2.2 := fun r hr => Lies.keep (S := SxP X.w0.heap.size W) (h.p.row r hr) (by omega) fun b hS hl => by
    have hb := hS.1
    refine ⟨⟨by omega, hb⟩, fun f => World.cell?_of_block (hk b ?_)⟩
    rintro rfl
    obtain ⟨_, t', ht, _, h3, _⟩ := hS
    have := h.p.rb.tag
    rw [this] at ht
    injection ht with ht
    exact h3 ht.symm
  obtain ⟨A, c, e, hL⟩ := Lies.own (S := fun b => b ≠ X.D ∧ X.w0.heap.size ≤ b ∧ b ≠ X.R) h.own (fun b hb hm => ⟨by omega, hb, fun q => by
    subst q
    have := h.p.rb.tag
    rw [this] at hm
    exact absurd hm (by decide)⟩) h.ts.len
  injection e with e1 e2 e3
  subst e1 e3
  refine ⟨⟨A0, c0, A1, c1, A2, c2, xs, rfl, hrow _ h0, hrow _ h1, hL.keep (by omega) fun b hS hl => ⟨⟨hS.1, hS.2.1⟩, fun f => World.cell?_of_block (hk b hS.2.2)⟩, h.ts.keep (by omega) fun b hS hl => ⟨⟨by have := hS.1; omega, hS.1⟩, fun f => World.cell?_of_block (hk b hS.2.1)⟩⟩,
    h.p.deck.keep (by omega) (hk _ (by omega)) (fun b hb => hk b (by omega)), ⟨ho.1.trans h.p.gen.os, ho.2.1.trans h.p.gen.tape, ho.2.2.trans h.p.gen.output, by have := h.p.gen.size; omega, fun b hb h1 h2 h3 => (hk b (by omega)).trans (h.p.gen.block b hb h1 h2 h3)⟩⟩
end
end Go.Proofs.YtbppfhlpielpcaaDoor
