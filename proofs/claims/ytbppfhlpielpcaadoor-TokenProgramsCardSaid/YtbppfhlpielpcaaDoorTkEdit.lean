/- Bytes that are changed: a row of bytes that may lie under a frozen end, a store into it, an append within it, and appends onto rows of one's own. No condition. -/
import Derived.Test.YtbppfhlpielpcaaDoorRfBodyS
import Derived.Laws.OwnMore
import Derived.Lib.ConvBytes
import Derived.Maps.AppendAt
namespace Go.Proofs.YtbppfhlpielpcaaDoor
open Go.RowKit Tk
set_option linter.unusedVariables false
set_option linter.unusedSimpArgs false
/-- n bytes at the beginning of a block, that may be written. -/
def Byt (g n : Nat) (w : World) : Prop := g < w.heap.size ∧ ∀ j, j < n → (∃ k : Int, w.cell? ⟨g, j, none⟩ = some (.int .u8 k) ∧ 0 ≤ k ∧ k ≤ 255) ∧ w.frozen? ⟨g, j, none⟩ = false
/-- Nothing but block g has changed. -/
structure Only1 (g : Nat) (w w' : World) : Prop where
  os : w'.os = w.os
  tape : w'.tape = w.tape
  output : w'.output = w.output
  size : w'.heap.size = w.heap.size
  block : ∀ b, b ≠ g → w'.heap[b]? = w.heap[b]?
theorem Only1.below {g B : Nat} {w w' : World} (h : Only1 g w w') (hg : B ≤ g) : Below B w w' :=
  ⟨h.os, h.tape, h.output, Nat.le_of_eq h.size.symm, fun k hk => h.block k (by omega)⟩
theorem Byt.below {g n : Nat} {w w' : World} (h : Byt g n w) (hb : Below w.heap.size w w') : Byt g n w' :=
  ⟨Nat.lt_of_lt_of_le h.1 hb.size, fun j hj => by
    obtain ⟨⟨k, hk, h1⟩, hf⟩ := h.2 j hj
    exact ⟨⟨k, (hb.cell (p := ⟨g, j, none⟩) h.1).trans hk, h1⟩, (hb.frozen (p := ⟨g, j, none⟩) h.1).trans hf⟩⟩
theorem Byt.set {g n : Nat} {w : World} (h : Byt g n w) (j : Nat) (k : Int) (hk : 0 ≤ k ∧ k ≤ 255) (hj : j < n) : Byt g n (w.setCell ⟨g, j, none⟩ (.int .u8 k)) ∧ Only1 g w (w.setCell ⟨g, j, none⟩ (.int .u8 k)) := by
  refine ⟨⟨by simpa using h.1, fun i hi => ?_⟩, ⟨by first | rfl | simp, by first | rfl | simp, by first | rfl | simp, by simp, fun b hb => Below.heap_setCell _ _ _ _ hb⟩⟩
  obtain ⟨⟨q, hq, h1⟩, hf⟩ := h.2 i hi
  obtain ⟨⟨q', hq', _⟩, _⟩ := h.2 j hj
  refine ⟨?_, by simpa using hf⟩
  by_cases e : i = j
  · subst e
    exact ⟨k, by go_simp, hk⟩
  · exact ⟨q, by rw [World.cell?_setCell_other _ _ _ _ (by first | (simp; done) | (simp; omega))]; exact hq, h1⟩
theorem store_byt (g n o : Nat) : ∀ (vs : List Value) (i : Nat) (w : World), Byt g n w → o + i + vs.length ≤ n → U8s vs → ∃ w', (storeCells ⟨g, o, none⟩ vs i).run Tryd.prog w = .ok () w' ∧ Byt g n w' ∧ Only1 g w w'
  | [], i, w, h, _, _ => ⟨w, rfl, h, rfl, rfl, rfl, rfl, fun _ _ => rfl⟩
  | v :: rest, i, w, h, hl, hu => by
    obtain ⟨k, rfl, hk⟩ := hu v (by simp)
    have hi : o + i < n := by simp at hl; omega
    have hadd : (⟨g, o, none⟩ : Addr).add i = ⟨g, o + i, none⟩ := by unfold Addr.add; split <;> simp_all
    obtain ⟨⟨q, hq, _⟩, hf⟩ := h.2 (o + i) hi
    have hst : (store ((⟨g, o, none⟩ : Addr).add i) (.int .u8 k)).run Tryd.prog w = .ok () (w.setCell ⟨g, o + i, none⟩ (.int .u8 k)) := by
      rw [hadd, run_store Tryd.prog w _ _ _ rfl, hq]
      simp [hf]
    obtain ⟨h1, h2⟩ := h.set (o + i) k hk hi
    obtain ⟨w', hr, h3, h4⟩ := store_byt g n o rest (i + 1) _ h1 (by simp at hl ⊢; omega) (fun x hx => hu x (by simp [hx]))
    refine ⟨w', ?_, h3, h4.os.trans h2.os, h4.tape.trans h2.tape, h4.output.trans h2.output, h4.size.trans h2.size, fun b hb => (h4.block b hb).trans (h2.block b hb)⟩
    simp only [storeCells, Sem.run_bind, hst, Result.andThen_ok, hr]
theorem byt_cells {g n : Nat} {w : World} (h : Byt g n w) (o m : Nat) (hm : o + m ≤ n) : ∃ news : List Value, news.length = m ∧ (∀ j u, news[j]? = some u → w.cell? ((⟨g, o, none⟩ : Addr).add j) = some u) ∧ U8s news := by
  induction m with
  | zero => exact ⟨[], rfl, fun j u h => by simp at h, fun u hu => by cases hu⟩
  | succ m ih =>
    obtain ⟨news, hl, hc, hu⟩ := ih (by omega)
    obtain ⟨⟨k, hk, h1⟩, _⟩ := h.2 (o + m) (by omega)
    refine ⟨news ++ [.int .u8 k], by simp [hl], fun j u hj => ?_, fun u hu' => ?_⟩
    · have hadd : (⟨g, o, none⟩ : Addr).add j = ⟨g, o + j, none⟩ := by unfold Addr.add; split <;> simp_all
      by_cases e : j < m
      · rw [List.getElem?_append_left (by omega)] at hj
        exact hc j u hj
      · rw [List.getElem?_append_right (by omega)] at hj
        obtain rfl : j = m := by
          have := (List.getElem?_eq_some_iff.1 hj).1
          simp at this; omega
        simp [hl] at hj
        subst hj
        rw [hadd]
        exact hk
    · rcases List.mem_append.1 hu' with hu' | hu'
      · exact hu u hu'
      · simp at hu'; exact ⟨k, hu', h1⟩
theorem u8s_one {xs : List Value} (h : U8s xs) : ∀ u ∈ xs, u.oneCell' = true := fun u hu => by obtain ⟨k, rfl, _⟩ := h u hu; rfl
/-- An append of a part of a row onto its beginning, in place. -/
theorem append_in (ty : TypeId) (g n c o m i : Nat) (w : World) (h : Byt g n w) (ho : o + m ≤ n) (hi : i + m ≤ n) (hc : i + m ≤ c) (c' : Nat) :
    ∃ w', (Builtin.append_ #[36, 36] ty #[.slice (some ⟨g, 0, none⟩) i c, .slice (some ⟨g, o, none⟩) m c']).run Tryd.prog w = .ok (.slice (some ⟨g, 0, none⟩) (i + m) c) w' ∧ Byt g n w' ∧ Only1 g w w' := by
  obtain ⟨i0, hi0, hz0, hz1, hz2⟩ := info_parts Tryd.infoByte
  obtain ⟨news, hl, hn, hu⟩ := byt_cells h o m ho
  have hf := run_firstCells_some (P := Tryd.prog) w 1 m ⟨g, o, none⟩ m c' news (by omega) hn
  obtain ⟨w', hr, h1, h2⟩ := store_byt g n i news 0 w h (by omega) hu
  refine ⟨w', ?_, h1, h2⟩
  simp [Builtin.append_, run_underlying Tryd.underlying36, run_underlying Tryd.underlying5, sizeOf, typeInfo, hi0, hz1, Builtin.lenOf, hc, hf, Addr.add_lit, hr]
/-- An append of bytes onto a row of one's own. -/
theorem append_out (ty : TypeId) (base : Nat) (v : Value) (n g o m c : Nat) (w : World) (hb : OutB base v n w) (news : List Value) (hl : news.length = m) (hn : ∀ j u, news[j]? = some u → w.cell? ((⟨g, o, none⟩ : Addr).add j) = some u) (hu : U8s news) (hm : n + m ≤ 1000000) (hbase : base ≤ w.heap.size) :
    ∃ v' w', (Builtin.append_ #[36, 36] ty #[v, .slice (some ⟨g, o, none⟩) m c]).run Tryd.prog w = .ok v' w' ∧ OutB base v' (n + m) w' ∧ Kp base w w' := by
  obtain ⟨i0, hi0, hz0, hz1, hz2⟩ := info_parts Tryd.infoByte
  obtain ⟨xs, ho, hxs⟩ := hb
  obtain ⟨v', w', hr, h2, h3, _⟩ := run_append_own (P := Tryd.prog) w base 36 ty 5 i0 (.int .u8 0) 1 1 Tryd.underlying36 hi0 hz0 hz1 hz2 rfl (by omega) v n xs ho ⟨g, o, none⟩ m c news (by omega) hn (u8s_one hu) (by unfold maxLen; omega) (by omega) hbase
  exact ⟨v', w', hr, ⟨_, h2, fun u hu' => by rcases List.mem_append.1 hu' with h | h; exact hxs u h; exact hu u h⟩, Kp.grown ⟨_, ho, hxs⟩ h3⟩
/-- This slice reads as this text, here and in all worlds behind. -/
def Txt (v : Value) (t : ByteArray) (w : World) : Prop := ∀ u, Below w.heap.size w u → (convert 36 9 v).run Tryd.prog u = .ok (.string t) u
theorem Txt.below {v : Value} {t : ByteArray} {w w' : World} (h : Txt v t w) (hb : Below w.heap.size w w') : Txt v t w' := fun u hu => h u (hb.trans (hu.mono hb.size))
theorem txt_of (g n c : Nat) (w : World) (hg : g < w.heap.size) (xs : List Value) (hl : xs.length = n) (hc : ∀ j u, xs[j]? = some u → w.cell? ⟨g, j, none⟩ = some u) (hu : U8s xs) : ∃ t : ByteArray, t.size = n ∧ Txt (.slice (some ⟨g, 0, none⟩) n c) t w := by
  refine ⟨_, ?_, fun u hu' => run_convert_bytes_arg u 36 5 Tryd.underlying36 Tryd.underlying5 g 0 n c (xs.map intOf) (by simpa using hl) ?_ 9 Tryd.underlying9⟩
  · rw [strOfNums_size]; simpa using hl
  · intro i hi
    have hx : i < xs.length := by omega
    obtain ⟨k, hk, _⟩ := hu _ (List.getElem_mem hx)
    have h1 := (hu'.cell (p := ⟨g, i, none⟩) hg).trans (hc i _ (List.getElem?_eq_getElem hx))
    rw [Nat.zero_add, h1, hk]
    simp [List.getD, List.getElem?_map, List.getElem?_eq_getElem hx, hk, intOf]
theorem byt_txt {g n : Nat} {w : World} (h : Byt g n w) (m c : Nat) (hm : m ≤ n) : ∃ t : ByteArray, t.size = m ∧ Txt (.slice (some ⟨g, 0, none⟩) m c) t w := by
  obtain ⟨news, hl, hc, hu⟩ := byt_cells h 0 m (by omega)
  exact txt_of g m c w h.1 news hl (fun j u hj => by
    have := hc j u hj
    have hadd : (⟨g, 0, none⟩ : Addr).add j = ⟨g, j, none⟩ := by unfold Addr.add; split <;> simp_all
    rwa [hadd] at this) hu
theorem outb_txt {base n : Nat} {v : Value} {w : World} (h : OutB base v n w) : ∃ t : ByteArray, t.size = n ∧ Txt v t w := by
  obtain ⟨xs, ho, hu⟩ := h
  rcases ho.2 with ⟨rfl, h1⟩ | ⟨g, cap, cur, rfl, _⟩
  · subst h1
    exact ⟨ByteArray.empty, rfl, fun u _ => run_convert_bytes_nil u 36 5 Tryd.underlying36 Tryd.underlying5 0 0 9 Tryd.underlying9⟩
  · have hlt := ho.lt g rfl
    exact txt_of g n cap w hlt.2 xs (by have := ho.1; omega) (fun j u hj => by
      have := ho.cells (g := g) rfl j u hj
      have hadd : (⟨g, 0, none⟩ : Addr).add j = ⟨g, j, none⟩ := by unfold Addr.add; split <;> simp_all
      rwa [hadd] at this) hu
/-- '[]byte(s)'. -/
theorem bytes_new (s : ByteArray) (w : World) : ∃ (c : Nat) (w' : World), (convert 9 36 (.string s)).run Tryd.prog w = .ok (.slice (some ⟨w.heap.size, 0, none⟩) s.size c) w' ∧ s.size ≤ c ∧ Byt w.heap.size s.size w' ∧ Below w.heap.size w w' := by
  have h := Lib.run_convert_string_bytes (P := Tryd.prog) w 9 36 5 s Tryd.underlying9 Tryd.underlying36 Tryd.underlying5
  refine ⟨_, _, h, (grownCap_ge w s.size 0 5), ⟨by rw [Lib.bytesWorld_size]; omega, fun j hj => ⟨⟨_, Lib.bytesWorld_cell w _ s j hj, by omega, ?_⟩, ?_⟩⟩, ?_⟩
  · have := (s.data.toList.getD j 0).toNat_lt
    omega
  · have h2 := Lib.bytesWorld_at_new w 5 s
    have hs : s.size ≤ (Lib.bytesCells w 5 s).size := by
      have := Lib.bytesWorld_cell w 5 s j hj
      simp [Lib.bytesCells]
    simp only [World.frozen?, h2, Bool.and_eq_false_iff, decide_eq_false_iff_not]
    left
    omega
  · exact ⟨rfl, rfl, rfl, by rw [Lib.bytesWorld_size]; omega, fun k hk => Lib.bytesWorld_at_old w _ s k hk⟩
/-- A row of k bytes of one's own, made behind w0, and (or not yet) a block with one byte. -/
def Ow (w0 : World) (k : Nat) (v : Value) (hh : Option Nat) (kb : Int) (u : World) : Prop :=
  Below w0.heap.size w0 u ∧ OutB w0.heap.size v k u ∧ ∀ h, hh = some h → w0.heap.size ≤ h ∧ h < u.heap.size ∧ u.cell? ⟨h, 0, none⟩ = some (.int .u8 kb) ∧ v.ownBlock ≠ some h
section
variable {w0 u : World} {k : Nat} {v : Value} {hh : Option Nat} {kb : Int}
theorem Ow.start (w0 : World) (kb : Int) : Ow w0 0 (.slice none 0 0) none kb w0 := ⟨Below.refl _ _, outb_nil _ _, fun h e => by cases e⟩
theorem Ow.lit (h : Ow w0 0 (.slice none 0 0) hh kb u) : Ow w0 0 (.slice (some ⟨u.heap.size, 0, none⟩) 0 0) hh kb (u.alloc (.cells #[] 5)) := by
  obtain ⟨hb, _, ho⟩ := h
  have hb' := (Below.refl u.heap.size u).alloc (Nat.le_refl _) (.cells #[] 5)
  refine ⟨hb.trans (hb'.mono hb.size), ⟨[], World.ownsRow_lit u #[] 0 hb.size (Nat.zero_le _) rfl, fun x hx => by cases hx⟩, fun h e => ?_⟩
  obtain ⟨h1, h2, h3, _⟩ := ho h e
  exact ⟨h1, Nat.lt_of_lt_of_le h2 hb'.size, (hb'.cell (p := ⟨h, 0, none⟩) h2).trans h3, fun e => by simp [Value.ownBlock] at e; omega⟩
theorem Ow.one (h : Ow w0 k v none kb u) : Ow w0 k v (some u.heap.size) kb (u.alloc (.cells #[.int .u8 kb] 5)) := by
  obtain ⟨hb, hv, _⟩ := h
  have hb' := (Below.refl u.heap.size u).alloc (Nat.le_refl _) (.cells #[.int .u8 kb] 5)
  refine ⟨hb.trans (hb'.mono hb.size), hv.below hb', fun h e => ?_⟩
  injection e with e
  subst e
  obtain ⟨xs, hx, _⟩ := hv
  exact ⟨hb.size, by simp, by simp, fun e => by have := (hx.lt _ e).2; omega⟩
theorem Ow.app (h : Ow w0 k v hh kb u) (ty : TypeId) (g o m c : Nat) (news : List Value) (hl : news.length = m) (hn : ∀ j x, news[j]? = some x → u.cell? ((⟨g, o, none⟩ : Addr).add j) = some x) (hu : U8s news) (hm : k + m ≤ 1000000) :
    ∃ v' u', (Builtin.append_ #[36, 36] ty #[v, .slice (some ⟨g, o, none⟩) m c]).run Tryd.prog u = .ok v' u' ∧ Ow w0 (k + m) v' hh kb u' := by
  obtain ⟨i0, hi0, hz0, hz1, hz2⟩ := info_parts Tryd.infoByte
  obtain ⟨hb, ⟨xs, ho, hxs⟩, hh'⟩ := h
  obtain ⟨v', u', hr, h2, h3, _, h5⟩ := run_append_own_at (P := Tryd.prog) u w0.heap.size 36 ty 5 i0 (.int .u8 0) 1 1 Tryd.underlying36 hi0 hz0 hz1 hz2 rfl (by omega) v k xs ho ⟨g, o, none⟩ m c news (by omega) hn (u8s_one hu) (by unfold maxLen; omega) (by omega) hb.size
  refine ⟨v', u', hr, hb.grown h3 hb.size (fun q e => (ho.lt q e).1), ⟨_, h2, fun x hx => by rcases List.mem_append.1 hx with h | h; exact hxs x h; exact hu x h⟩, fun q e => ?_⟩
  obtain ⟨q1, q2, q3, q4⟩ := hh' q e
  refine ⟨q1, Nat.lt_of_lt_of_le q2 h3.size, ?_, ?_⟩
  · rw [World.cell?_of_block (h3.block q q2 (fun e => q4 e.symm))]; exact q3
  · rcases h5 with h5 | h5
    · rw [h5]; exact q4
    · rw [h5]; intro e; injection e with e; omega
theorem Ow.appB (h : Ow w0 k v hh kb u) (ty : TypeId) {g n : Nat} (hB : Byt g n w0) (o m c : Nat) (hm : o + m ≤ n) (hk : k + m ≤ 1000000) :
    ∃ v' u', (Builtin.append_ #[36, 36] ty #[v, .slice (some ⟨g, o, none⟩) m c]).run Tryd.prog u = .ok v' u' ∧ Ow w0 (k + m) v' hh kb u' := by
  obtain ⟨news, hl, hc, hu⟩ := byt_cells (hB.below h.1) o m hm
  exact h.app ty g o m c news hl hc hu hk
theorem Ow.app1 {q : Nat} (h : Ow w0 k v (some q) kb u) (ty : TypeId) (hkb : 0 ≤ kb ∧ kb ≤ 255) (hk : k + 1 ≤ 1000000) :
    ∃ v' u', (Builtin.append_ #[36, 36] ty #[v, .slice (some ⟨q, 0, none⟩) 1 1]).run Tryd.prog u = .ok v' u' ∧ Ow w0 (k + 1) v' (some q) kb u' := by
  refine h.app ty q 0 1 1 [.int .u8 kb] rfl (fun j x hj => ?_) (fun x hx => by simp at hx; exact ⟨kb, hx, hkb⟩) hk
  obtain rfl : j = 0 := by
    have := (List.getElem?_eq_some_iff.1 hj).1
    simp at this; omega
  simp at hj
  subst hj
  exact (h.2.2 q rfl).2.2.1
end
/-- An append whose run is known, as a step of a region that draws. -/
theorem step_append_run (w w' : World) {ops : Array Oper} {o : Oper} {a : Act} {K : Act → World → Prop} {Q : Exit → Act → World → Prop} {E : Prop} {t : TypeId} {v xv v' : Value} (hgd : o.guard = none) (sl x : Operand)
    (ho : o.op = .call { callee := .builtin .append, args := #[sl, x], argTypes := #[t, t] }) (hs : a.eval sl = v) (hx : a.eval x = xv) (hr : (Builtin.append_ #[t, t] o.type #[v, xv]).run Tryd.prog w = .ok v' w')
    (h : K (a.put o.dst v') w') : if Region.wanted o (yielded ops a.tmps) = true then Oper.wp Tryd.prog o a w K Q else E := by
  have hw : Region.wanted o (yielded ops a.tmps) = true := by simp [Region.wanted, hgd]
  rw [if_pos hw]
  unfold Oper.wp execOp
  simp only [ho, resolve, invoke, builtin, Sem.run_bind, Sem.run_pure, Result.andThen_ok, List.map_toArray, List.map_cons, List.map_nil, hs, hx, hr]
  exact h
end Go.Proofs.YtbppfhlpielpcaaDoor
