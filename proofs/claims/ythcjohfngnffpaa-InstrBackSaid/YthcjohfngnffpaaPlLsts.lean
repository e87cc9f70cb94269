/- Lists of lists of numbers in memory: as they are read, and rows in blocks of their own. No condition. -/
import Derived.Test.YthcjohfngnffpaaPlRow
import Derived.LoopTactic
import Derived.Laws.AppendOwnNone
import Derived.Maps.AppendAt
import Derived.Deep.RegionLaw
namespace Go.Proofs.Ythcjohfngnffpaa
open Go.RowKit
set_option linter.unusedVariables false
set_option linter.unusedSimpArgs false
attribute [local go_sem] y_undef
theorem Try.infoInt : (Try.prog.info? 3).map (fun i => (i.zero, i.size, i.bytes)) = some (some (.int .i64 0), 1, 8) := by kernel_rfl
theorem Try.infoLi : (Try.prog.info? 45).map (fun i => (i.zero, i.size, i.bytes)) = some (some (.slice none 0 0), 1, 24) := by kernel_rfl
/-- Lists of numbers in memory. -/
def LstsIn (w : World) (v : Value) (l : List (List Int)) : Prop :=
  ∃ (A : Option Addr) (c : Nat), v = .slice A l.length c ∧ ∀ i, i < l.length → ∃ b off u, A = some ⟨b, off, none⟩ ∧ b < w.heap.size ∧ w.cell? ⟨b, off + i, none⟩ = some u ∧ NumsIn w u (l.getD i [])
theorem LstsIn.below {w w' : World} {v : Value} {l : List (List Int)} (h : LstsIn w v l) (hb : Below w.heap.size w w') : LstsIn w' v l := by
  obtain ⟨A, c, e, ho⟩ := h
  refine ⟨A, c, e, fun i hi => ?_⟩
  obtain ⟨b, off, u, eA, hlt, hc, hq⟩ := ho i hi
  exact ⟨b, off, u, eA, Nat.lt_of_lt_of_le hlt hb.size, (hb.cell (p := ⟨b, off + i, none⟩) hlt).trans hc, hq.below hb⟩
section
variable {u u' : World}
theorem own_below {base : Nat} {e : TypeId} {size n : Nat} {v : Value} {xs : List Value} (h : u.ownsRow base e size v n xs) (hb : Below u.heap.size u u') : u'.ownsRow base e size v n xs :=
  World.ownsRow.kept h (row := none) ⟨hb.os, hb.tape, hb.output, hb.size, fun k hk _ => hb.block k hk⟩ (by cases hv : v.ownBlock <;> simp)
theorem own_grown {base D : Nat} {e : TypeId} {size n : Nat} {v : Value} {xs : List Value} (h : u.ownsRow base e size v n xs) (hg : u.grownBy u' (some D)) (hD : D < base) : u'.ownsRow base e size v n xs :=
  World.ownsRow.kept h hg (by
    cases hv : v.ownBlock with
    | none => exact .inl rfl
    | some k => exact .inr (fun e => by injection e with e; have := (World.ownsRow.lt h k hv).1; omega))
end
/-- Two rows lie in blocks of their own. -/
def Ap (x y : Value) : Prop := ∀ k, x.ownBlock = some k → y.ownBlock ≠ some k
theorem Ap.symm {x y : Value} (h : Ap x y) : Ap y x := fun k hk e => h k e hk
theorem Ap.kept {x y : Value} (h : Ap x y) : y.ownBlock = none ∨ y.ownBlock ≠ x.ownBlock := by
  cases hy : y.ownBlock with
  | none => exact .inl rfl
  | some k => exact .inr (fun e => h k e.symm hy)
theorem Ap.nil (y : Value) : Ap (.slice none 0 0) y := fun k hk => by simp [Value.ownBlock] at hk
/-- Rows of numbers, each in a block of its own, and the row of them. -/
def Mps (base : Nat) (u : World) (y : Value) (us : List Value) (ts : List (List Int)) : Prop :=
  u.ownsRow base 45 1 y ts.length us ∧ (∀ i x, us[i]? = some x → u.ownsRow base 3 1 x (ts.getD i []).length ((ts.getD i []).map (Value.int .i64))) ∧ us.Pairwise Ap ∧ ∀ x ∈ us, Ap y x
section
variable {u u' : World} {base D : Nat} {y : Value} {us : List Value} {ts : List (List Int)}
theorem Mps.below (h : Mps base u y us ts) (hb : Below u.heap.size u u') : Mps base u' y us ts := ⟨own_below h.1 hb, fun i x hx => own_below (h.2.1 i x hx) hb, h.2.2⟩
theorem Mps.grown (h : Mps base u y us ts) (hg : u.grownBy u' (some D)) (hD : D < base) : Mps base u' y us ts := ⟨own_grown h.1 hg hD, fun i x hx => own_grown (h.2.1 i x hx) hg hD, h.2.2⟩
theorem Mps.len (h : Mps base u y us ts) : us.length = ts.length := by have := h.1.1; omega
/-- A list of lists, as it is read. -/
theorem Mps.lsts (h : Mps base u y us ts) : LstsIn u y ts := by
  have hl := h.len
  rcases h.1.2 with ⟨rfl, h0⟩ | ⟨g, cap, cur, rfl, hB, hg, hcap, _⟩
  · exact ⟨none, 0, by rw [h0], fun i hi => by omega⟩
  · refine ⟨_, cap, rfl, fun i hi => ?_⟩
    have hi' : i < us.length := by omega
    have hx : us[i]? = some us[i] := List.getElem?_eq_getElem hi'
    have hc := h.1.cells (g := g) rfl i _ hx
    have hadd : (⟨g, 0, none⟩ : Addr).add i = ⟨g, 0 + i, none⟩ := by unfold Addr.add; split <;> simp_all
    rw [hadd] at hc
    have hN : NumsIn u us[i] (ts.getD i []) := by
      have := RowIn.own (h.2.1 i _ hx)
      exact this
    exact ⟨g, 0, us[i], rfl, (h.1.lt g rfl).2, hc, hN⟩
theorem Mps.nil (base : Nat) (u : World) : Mps base u (.slice none 0 0) [] [] := ⟨World.ownsRow_nil _ _ _ _, fun i x hx => by simp at hx, List.Pairwise.nil, fun x hx => by simp at hx⟩
theorem own_block_lt {base : Nat} {e : TypeId} {size n k : Nat} {v : Value} {xs : List Value} (h : u.ownsRow base e size v n xs) (hk : v.ownBlock = some k) : k < u.heap.size := (World.ownsRow.lt h k hk).2
end
/-- A slice that is nil has neither elements nor room. -/
def Snd (v : Value) : Prop := ∀ n c, v = .slice none n c → n = 0 ∧ c = 0
/-- Lists of numbers in memory, none of them odd. -/
def LstsS (w : World) (v : Value) (l : List (List Int)) : Prop :=
  ∃ (A : Option Addr) (c : Nat), v = .slice A l.length c ∧ ∀ i, i < l.length → ∃ b off u, A = some ⟨b, off, none⟩ ∧ b < w.heap.size ∧ w.cell? ⟨b, off + i, none⟩ = some u ∧ NumsIn w u (l.getD i []) ∧ Snd u
theorem LstsS.below {w w' : World} {v : Value} {l : List (List Int)} (h : LstsS w v l) (hb : Below w.heap.size w w') : LstsS w' v l := by
  obtain ⟨A, c, e, ho⟩ := h
  refine ⟨A, c, e, fun i hi => ?_⟩
  obtain ⟨b, off, u, eA, hlt, hc, hq, hs⟩ := ho i hi
  exact ⟨b, off, u, eA, Nat.lt_of_lt_of_le hlt hb.size, (hb.cell (p := ⟨b, off + i, none⟩) hlt).trans hc, hq.below hb, hs⟩
theorem LstsS.lsts {w : World} {v : Value} {l : List (List Int)} (h : LstsS w v l) : LstsIn w v l := by
  obtain ⟨A, c, e, ho⟩ := h
  refine ⟨A, c, e, fun i hi => ?_⟩
  obtain ⟨b, off, u, eA, hlt, hc, hq, _⟩ := ho i hi
  exact ⟨b, off, u, eA, hlt, hc, hq⟩
theorem own_snd {u : World} {base : Nat} {e : TypeId} {size n : Nat} {v : Value} {xs : List Value} (h : u.ownsRow base e size v n xs) : Snd v := by
  intro k c e
  rcases h.2 with ⟨rfl, h0⟩ | ⟨g, cap, cur, rfl, _⟩
  · injection e with _ e1 e2
    exact ⟨e1.symm, e2.symm⟩
  · injection e with e1
    exact absurd e1 (by simp)
section
variable {u u' : World} {base D : Nat} {y x : Value} {us : List Value} {ts : List (List Int)} {q : List Int}
theorem Mps.lstsS (h : Mps base u y us ts) : LstsS u y ts := by
  have hl := h.len
  rcases h.1.2 with ⟨rfl, h0⟩ | ⟨g, cap, cur, rfl, hB, hg, hcap, _⟩
  · exact ⟨none, 0, by rw [h0], fun i hi => by omega⟩
  · refine ⟨_, cap, rfl, fun i hi => ?_⟩
    have hi' : i < us.length := by omega
    have hx : us[i]? = some us[i] := List.getElem?_eq_getElem hi'
    have hc := h.1.cells (g := g) rfl i _ hx
    have hadd : (⟨g, 0, none⟩ : Addr).add i = ⟨g, 0 + i, none⟩ := by unfold Addr.add; split <;> simp_all
    rw [hadd] at hc
    have hN : NumsIn u us[i] (ts.getD i []) := by
      have := RowIn.own (h.2.1 i _ hx)
      exact this
    exact ⟨g, 0, us[i], rfl, (h.1.lt g rfl).2, hc, hN, own_snd (h.2.1 i _ hx)⟩
theorem Mps.blk (h : Mps base u y us ts) {z : Value} (hz : z ∈ us) {k : Nat} (hk : z.ownBlock = some k) : k < u.heap.size := by
  obtain ⟨i, hi, rfl⟩ := List.getElem_of_mem hz
  exact own_block_lt (h.2.1 i _ (List.getElem?_eq_getElem hi)) hk
theorem ap_new {x x' z : Value} (hv : x'.ownBlock = x.ownBlock ∨ x'.ownBlock = some u.heap.size) (ha : Ap x z) (hl : ∀ k, z.ownBlock = some k → k < u.heap.size) : Ap x' z := fun k hk e => by
  rcases hv with e2 | e2
  · exact ha k (e2 ▸ hk) e
  · rw [e2] at hk; injection hk with hk; have := hl k e; omega
/-- A row beside them has grown. -/
theorem Mps.appx (h : Mps base u y us ts) (hy : Ap x y) (hz : ∀ z ∈ us, Ap x z) {x' : Value} (hg : u.grownBy u' x.ownBlock) (hv : x'.ownBlock = x.ownBlock ∨ x'.ownBlock = some u.heap.size) : Mps base u' y us ts ∧ Ap x' y ∧ ∀ z ∈ us, Ap x' z :=
  ⟨⟨h.1.kept hg hy.kept, fun i z hzi => (h.2.1 i z hzi).kept hg (hz z (List.mem_of_getElem? hzi)).kept, h.2.2⟩, ap_new hv hy (fun k hk => own_block_lt h.1 hk), fun z hzm => ap_new hv (hz z hzm) (fun k hk => h.blk hzm hk)⟩
/-- A row is taken among them. -/
theorem Mps.pushx (h : Mps base u y us ts) (hO : u.ownsRow base 3 1 x q.length (q.map (Value.int .i64))) (hy : Ap x y) (hz : ∀ z ∈ us, Ap x z) {y' : Value} (hown : u'.ownsRow base 45 1 y' (ts.length + 1) (us ++ [x])) (hg : u.grownBy u' y.ownBlock)
    (hv : y'.ownBlock = y.ownBlock ∨ y'.ownBlock = some u.heap.size) : Mps base u' y' (us ++ [x]) (ts ++ [q]) := by
  have hlen : us.length = ts.length := h.len
  refine ⟨by simpa using hown, fun i z hzi => ?_, ?_, fun z hzm => ?_⟩
  · by_cases hi : i < us.length
    · rw [List.getElem?_append_left hi] at hzi
      have e : (ts ++ [q]).getD i [] = ts.getD i [] := by simp [List.getD, List.getElem?_append_left (show i < ts.length by omega)]
      rw [e]
      exact (h.2.1 i z hzi).kept hg (h.2.2.2 z (List.mem_of_getElem? hzi)).kept
    · rw [List.getElem?_append_right (by omega)] at hzi
      have hi0 : i - us.length = 0 := by
        have := (List.getElem?_eq_some_iff.1 hzi).1
        simp at this
        omega
      rw [hi0] at hzi
      obtain rfl : x = z := by simpa using hzi
      have e : (ts ++ [q]).getD i [] = q := by
        have : i = ts.length := by omega
        subst this
        simp [List.getD]
      rw [e]
      exact hO.kept hg hy.symm.kept
  · rw [List.pairwise_append]
    exact ⟨h.2.2.1, by simp, fun a ha b hb => by
      obtain rfl : b = x := by simpa using hb
      exact (hz a ha).symm⟩
  · rcases List.mem_append.1 hzm with hm | hm
    · exact ap_new hv (h.2.2.2 z hm) fun k hk => h.blk hm hk
    · obtain rfl : z = x := by simpa using hm
      exact ap_new hv hy.symm fun k hk => own_block_lt hO hk
end
/-- append onto a row of the call's own, of a slice that is nil or lies at an address. -/
theorem wpList_append_both {P : Program} {w : World} {ops : Array Oper} {rest : List Oper} {o : Oper} {a : Act} {Q : Exit → Act → World → Prop} (hgd : o.guard = none) (s x : Operand) (t : TypeId)
    (ho : o.op = .call { callee := .builtin .append, args := #[s, x], argTypes := #[t, t] })
    (base : Nat) (e : TypeId) (i : TypeInfo) (z : Value) (size bytes : Nat) (ht : P.underlying t = some (.slice e)) (hi : P.info? e = some i) (hz : i.zero = some z)
    (hsize : i.size = size) (hby : i.bytes = bytes) (hzs : z.cells.size = size) (hsz : 0 < size)
    (v : Value) (n : Nat) (xs : List Value) (hs : a.eval s = v) (hown : w.ownsRow base e size v n xs)
    (A : Option Addr) (m c : Nat) (news : List Value) (hx : a.eval x = .slice A m c) (hl : news.length = m * size) (hA : A = none → m = 0 ∧ c = 0) (hc : ∀ ad, A = some ad → ∀ j u, news[j]? = some u → w.cell? (ad.add j) = some u) (h1 : ∀ u ∈ news, u.oneCell' = true)
    (h63 : n + m ≤ maxLen) (hbytes : (n + m) * bytes ≤ 140737488355328) (hbase : base ≤ w.heap.size)
    (h : ∀ v' w', w'.ownsRow base e size v' (n + m) (xs ++ news) → w.grownBy w' v.ownBlock → (v'.ownBlock = v.ownBlock ∨ v'.ownBlock = some w.heap.size) → wpList P ops Q rest (a.put o.dst v') w') : wpList P ops Q (o :: rest) a w := by
  cases A with
  | none =>
    obtain ⟨rfl, rfl⟩ := hA rfl
    have hn : news = [] := List.eq_nil_of_length_eq_zero (by rw [hl, Nat.zero_mul])
    subst hn
    exact wpList_append_own_none hgd s x t ho base e i size ht hi v n xs hs hown hx (h v w (by simpa using hown) (World.grownBy.refl w _) (.inl rfl))
  | some ad => exact wpList_append_own_at _ hgd s x t ho base e i z size bytes ht hi hz hsize hby hzs hsz v n xs hs hown ad m c news hx hl (hc ad rfl) h1 h63 hbytes hbase fun v' w' h2 h3 _ h4 => h v' w' h2 h3 h4
/-- Lists of lists in the making. -/
def Mo (w : World) (y : Value) (us : List Value) (os : List (List Int)) (u : World) : Prop := Below w.heap.size w u ∧ Mps w.heap.size u y us os
def My (w : World) (y : Value) (us : List Value) (os : List (List Int)) (x : Value) (q : List Int) (u : World) : Prop :=
  Mo w y us os u ∧ u.ownsRow w.heap.size 3 1 x q.length (q.map (Value.int .i64)) ∧ Ap x y ∧ ∀ z ∈ us, Ap x z
section
variable {w u u' : World} {y x : Value} {us : List Value} {os : List (List Int)} {q : List Int}
theorem Mo.below (h : Mo w y us os u) (hb : Below u.heap.size u u') : Mo w y us os u' := ⟨h.1.trans (hb.mono h.1.size), h.2.below hb⟩
theorem My.below (h : My w y us os x q u) (hb : Below u.heap.size u u') : My w y us os x q u' := ⟨h.1.below hb, own_below h.2.1 hb, h.2.2⟩
theorem My.alloc (h : My w y us os x q u) (o : Obj) : My w y us os x q (u.alloc o) := h.below ((Below.refl _ _).alloc (Nat.le_refl _) o)
theorem Mo.start (h : Mo w y us os u) : My w y us os (.slice none 0 0) [] u := ⟨h, World.ownsRow_nil _ _ _ _, Ap.nil _, fun z _ => Ap.nil _⟩
theorem My.app (h : My w y us os x q u) {x' : Value} {r : List Int} (hown : u'.ownsRow w.heap.size 3 1 x' (q.length + r.length) (q.map (Value.int .i64) ++ r.map (Value.int .i64))) (hg : u.grownBy u' x.ownBlock) (hv : x'.ownBlock = x.ownBlock ∨ x'.ownBlock = some u.heap.size) :
    My w y us os x' (q ++ r) u' := by
  obtain ⟨⟨hb, hM⟩, hO, hy, hz⟩ := h
  obtain ⟨h1, h2, h3⟩ := hM.appx hy hz hg hv
  exact ⟨⟨hb.grown hg hb.size (fun k hk => (hO.lt k hk).1), h1⟩, by rw [List.map_append, List.length_append]; exact hown, h2, h3⟩
theorem My.push (h : My w y us os x q u) {y' : Value} (hown : u'.ownsRow w.heap.size 45 1 y' (os.length + 1) (us ++ [x])) (hg : u.grownBy u' y.ownBlock) (hv : y'.ownBlock = y.ownBlock ∨ y'.ownBlock = some u.heap.size) : Mo w y' (us ++ [x]) (os ++ [q]) u' := by
  obtain ⟨⟨hb, hM⟩, hO, hy, hz⟩ := h
  exact ⟨hb.grown hg hb.size (fun k hk => (hM.1.lt k hk).1), hM.pushx hO hy hz hown hg hv⟩
end
/-- Element i of a row of one's own is another value. -/
theorem own_set {u : World} {base g i : Nat} {e : TypeId} {n cap : Nat} {z : Value} {xs : List Value} (h : u.ownsRow base e 1 (.slice (some ⟨g, 0, none⟩) n cap) n xs) (hi : i < n) : (u.setCell ⟨g, i, none⟩ z).ownsRow base e 1 (.slice (some ⟨g, 0, none⟩) n cap) n (xs.set i z) := by
  refine ⟨by simpa using h.1, .inr ?_⟩
  rcases h.2 with ⟨h0, _⟩ | ⟨g', cap', cur, hs, hb, hg, hc, hm, hsz, ht⟩
  · injection h0 with h0; exact absurd h0 (by simp)
  · injection hs with h1 h2 h3
    injection h1 with h1
    injection h1 with h1 _ _
    subst h1 h3
    refine ⟨g, cap, cur.setIfInBounds i z, rfl, hb, ?_, hc, hm, by simpa using hsz, ?_⟩
    · simp [World.setCell, Array.getElem?_modify, hg]
    · rw [Array.toList_setIfInBounds, List.take_set, ht]
/-- A store into another block. -/
theorem own_store {u : World} {base g i : Nat} {e : TypeId} {sz n : Nat} {v z : Value} {xs : List Value} (h : u.ownsRow base e sz v n xs) (hv : v.ownBlock ≠ some g) : (u.setCell ⟨g, i, none⟩ z).ownsRow base e sz v n xs := by
  refine ⟨h.1, ?_⟩
  rcases h.2 with hn | ⟨g', cap, cur, rfl, hb, hgg, rest⟩
  · exact .inl hn
  · refine .inr ⟨g', cap, cur, rfl, hb, ?_, rest⟩
    rw [Below.heap_setCell _ _ _ _ (fun e => hv (by show some g' = some g; rw [e]))]
    exact hgg
theorem getD_set2 {l : List (List Int)} {i j : Nat} {x : List Int} (hj : j < l.length) : (l.set i x).getD j [] = if i = j then x else l.getD j [] := by
  simp only [List.getD, List.getElem?_set]
  by_cases e : i = j
  · subst e
    simp [hj]
  · simp [e]
/-- A number of one of the rows is changed in place. -/
theorem Mps.setRow {u : World} {base : Nat} {y : Value} {us : List Value} {ts : List (List Int)} (h : Mps base u y us ts) {k g i n cap : Nat} (hk : us[k]? = some (.slice (some ⟨g, 0, none⟩) n cap)) (hi : i < (ts.getD k []).length) (z : Int) :
    Mps base (u.setCell ⟨g, i, none⟩ (.int .i64 z)) y us (ts.set k ((ts.getD k []).set i z)) := by
  have hlen := h.len
  obtain ⟨hkl, hke⟩ := List.getElem?_eq_some_iff.1 hk
  have hmem : (Value.slice (some ⟨g, 0, none⟩) n cap) ∈ us := List.mem_of_getElem? hk
  obtain ⟨h1, h2, h3, h4⟩ := h
  refine ⟨?_, fun j x hj => ?_, h3, h4⟩
  · rw [List.length_set]
    exact own_store h1 (fun e => h4 _ hmem g e rfl)
  · have hjl := (List.getElem?_eq_some_iff.1 hj).1
    rw [getD_set2 (by omega)]
    by_cases e : k = j
    · subst e
      rw [if_pos rfl]
      obtain rfl : Value.slice (some ⟨g, 0, none⟩) n cap = x := by rw [hk] at hj; exact Option.some.inj hj
      have hrow := h2 k _ hk
      have hn : n = (ts.getD k []).length := by
        rcases hrow.2 with ⟨h0, _⟩ | ⟨g', cap', cur, hs, _⟩
        · injection h0 with h0; exact absurd h0 (by simp)
        · injection hs
      subst hn
      have := own_set (z := .int .i64 z) hrow hi
      rw [List.length_set, List.map_set]
      exact this
    · rw [if_neg e]
      refine own_store (h2 j x hj) (fun e2 => ?_)
      rcases Nat.lt_or_gt_of_ne e with hlt | hlt
      · have := List.pairwise_iff_getElem.1 h3 k j hkl hjl hlt
        rw [hke, (List.getElem?_eq_some_iff.1 hj).2] at this
        exact this g rfl e2
      · have := List.pairwise_iff_getElem.1 h3 j k hjl hkl hlt
        rw [hke, (List.getElem?_eq_some_iff.1 hj).2] at this
        exact this g e2 rfl
/-- Row k, as it is read. -/
theorem Mps.row {u : World} {base : Nat} {y : Value} {us : List Value} {ts : List (List Int)} (h : Mps base u y us ts) {k : Nat} (hk : k < ts.length) (h0 : 0 < (ts.getD k []).length) :
    ∃ gy cy g cap, y = .slice (some ⟨gy, 0, none⟩) ts.length cy ∧ us[k]? = some (.slice (some ⟨g, 0, none⟩) (ts.getD k []).length cap) ∧ u.cell? ⟨gy, k, none⟩ = some (.slice (some ⟨g, 0, none⟩) (ts.getD k []).length cap) ∧ base ≤ gy ∧ gy < u.heap.size ∧ base ≤ g ∧ g < u.heap.size ∧ gy ≠ g ∧
      (∀ i, i < (ts.getD k []).length → u.cell? ⟨g, i, none⟩ = some (.int .i64 ((ts.getD k []).getD i 0))) ∧ ∀ o, u.frozen? ⟨g, o, none⟩ = false := by
  have hl := h.len
  have hx : us[k]? = some us[k] := List.getElem?_eq_getElem (by omega)
  have hrow := h.2.1 k _ hx
  rcases h.1.2 with ⟨rfl, h0'⟩ | ⟨gy, cy, cur, rfl, hB, hg, hcap, _⟩
  · omega
  · have hc := h.1.cells (g := gy) rfl k _ hx
    have hadd : (⟨gy, 0, none⟩ : Addr).add k = ⟨gy, 0 + k, none⟩ := by unfold Addr.add; split <;> simp_all
    rw [hadd, Nat.zero_add] at hc
    have hap := h.2.2.2 _ (List.mem_of_getElem? hx)
    rcases hrow.2 with ⟨_, hn⟩ | ⟨g, cap, cur2, hs, hB2, hg2, _⟩
    · omega
    · have hN : NumsIn u us[k] (ts.getD k []) := RowIn.own hrow
      rw [hs] at hx hc hrow hap
      refine ⟨gy, cy, g, cap, rfl, hx, hc, hB, (h.1.lt gy rfl).2, hB2, (hrow.lt g rfl).2, fun e => hap gy rfl (by rw [e]; rfl), fun i hi => ?_, fun o => by simp [World.frozen?, hg2]⟩
      have hci := hrow.cells (g := g) rfl i (.int .i64 ((ts.getD k []).getD i 0)) (by generalize ts.getD k [] = q at hi ⊢; simp [List.getD, List.getElem?_eq_getElem hi])
      have hadd2 : (⟨g, 0, none⟩ : Addr).add i = ⟨g, 0 + i, none⟩ := by unfold Addr.add; split <;> simp_all
      rwa [hadd2, Nat.zero_add] at hci
end Go.Proofs.Ythcjohfngnffpaa
