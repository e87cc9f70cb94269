/- The generator's loop: what its steps leave. The generator's loop: its body's end, and what is handed back. -/
import Derived.Test.YtbppfhlpielpcaaDoorGnSli
namespace Go.Proofs.YtbppfhlpielpcaaDoor
open Go.RowKit
set_option linter.unusedVariables false
section
variable {C : Cx} {s s1 : Ms} {w0 w4 wA w W : World} {mx l : Int} {ob : Obj} {g : Nat}
theorem in5 {r : Int} (h : 0 ≤ r ∧ (r < 6 ∨ r = 0)) : 0 ≤ r ∧ r ≤ 5 := by omega
theorem cell_one_at {W : World} {n : Nat} {x : Value} {ty : TypeId} (h : n = W.heap.size) : ∀ j u, [x][j]? = some u → (W.alloc (.cells #[x] ty)).cell? ((⟨n, 0, none⟩ : Addr).add j) = some u := by subst h; exact cell_one_new _ _ _
theorem in2 {r : Int} (h : 0 ≤ r ∧ (r < 3 ∨ r = 0)) : 0 ≤ r ∧ r ≤ 2 := by omega
abbrev whRow (mx l : Int) : Obj := .cells #[.int .i64 4, .string ⟨#[]⟩, .slice none 0 0, .slice none 0 0, .int .i64 mx, .int .i64 l, .slice none 0 0, .slice none 0 0] 88
theorem wh_of {m : Nat} (hb : Blk W g 88 #[.int .i64 4, .string ⟨#[]⟩, .slice none 0 0, .slice none 0 0, .int .i64 mx, .int .i64 l, .slice none 0 0, .slice none 0 0]) (hm : m ≤ g) :
    StB m W g 4 ⟨#[]⟩ none none none none 0 0 0 0 .nil .nil mx l .nil .nil :=
  ⟨hb, hm, ⟨Nat.le_refl _, trivial⟩, ⟨Nat.le_refl _, trivial⟩, ⟨Nat.le_refl _, trivial⟩, ⟨Nat.le_refl _, trivial⟩⟩
theorem whA (hS : Sg C s w0 (w4.alloc (whRow mx l))) (hs : Sg C s w0 w4) : StB w0.heap.size (w4.alloc (whRow mx l)) w4.heap.size 4 ⟨#[]⟩ none none none none 0 0 0 0 .nil .nil mx l .nil .nil :=
  wh_of (Blk.new w4 88 _) hs.2.size
theorem whB (hS : Sg C s w0 (set8 w4 wA.heap.size (.int .i64 4) (.string ⟨#[]⟩) (.slice none 0 0) (.slice none 0 0) (.int .i64 mx) (.int .i64 l) (.slice none 0 0) (.slice none 0 0))) (hb : Blk w4 wA.heap.size 88 zSt) (hz : w0.heap.size ≤ wA.heap.size) :
    StB w0.heap.size (set8 w4 wA.heap.size (.int .i64 4) (.string ⟨#[]⟩) (.slice none 0 0) (.slice none 0 0) (.int .i64 mx) (.int .i64 l) (.slice none 0 0) (.slice none 0 0)) wA.heap.size 4 ⟨#[]⟩ none none none none 0 0 0 0 .nil .nil mx l .nil .nil :=
  wh_of hb.set8 hz
theorem Sg.h60 {w : World} (h : Sg C s w0 w) : w.cell? ⟨C.M, 0, none⟩ = some (.pointer (some ⟨C.D, 0, none⟩)) ∧ w.cell? ⟨C.M, 6, none⟩ = some (.int .i64 s.lab) ∧ Sg C s w0 w := ⟨h.1.c0, h.1.c6, h⟩
theorem Sg.upd {w : World} (h : Sg C s w0 w) (i : Nat) (u : Value) (s' : Ms) (hcs : (#[.pointer (some ⟨C.D, 0, none⟩), .slice C.va C.vs.length C.vc, .slice s.la s.ls.length s.lc, .slice C.aa C.ars.length C.ac, .slice C.sa C.ss.length C.sc, .string s.held, .int .i64 s.lab, .int .i64 s.stm, .int .i64 s.inl] : Array Value).setIfInBounds i u =
      #[.pointer (some ⟨C.D, 0, none⟩), .slice C.va C.vs.length C.vc, .slice s'.la s'.ls.length s'.lc, .slice C.aa C.ars.length C.ac, .slice C.sa C.ss.length C.sc, .string s'.held, .int .i64 s'.lab, .int .i64 s'.stm, .int .i64 s'.inl])
    (hl : s'.la = s.la ∧ s'.lc = s.lc ∧ s'.ls = s.ls)
    (hlim : (0 ≤ s'.lab ∧ s'.lab ≤ 12) ∧ (0 ≤ s'.stm ∧ s'.stm ≤ 100) ∧ (0 ≤ s'.inl ∧ s'.inl ≤ 2) ∧ (s'.ls.length : Int) ≤ s'.inl ∧ (s'.held = ⟨#[]⟩ ∨ Nm s'.held)) : Sg C s' w0 (w.setCell ⟨C.M, i, none⟩ u) :=
  ⟨h.1.upd i u s' hcs hl hlim, h.2.set (.inr (.inl rfl)) u⟩
/-- A store into the maker's block leaves a statement in the making. -/
theorem StB.mset {m : Nat} {k : Int} {x : ByteArray} {B2 B3 B6 B7 : Option Addr} {c2 c3 c6 c7 : Nat} {i v : Exs} {t e : Sts} (h : StB m W g k x B2 B3 B6 B7 c2 c3 c6 c7 i v mx l t e) (hM : Mks C s W) (j : Nat) (u : Value) : StB m (W.setCell ⟨C.M, j, none⟩ u) g k x B2 B3 B6 B7 c2 c3 c6 c7 i v mx l t e :=
  h.keep (by simp) fun b hb _ => Below.heap_setCell W _ u b (by
    rintro rfl
    have h2 := hM.blk.tag
    rcases hb with hb | hb <;> rw [hb] at h2 <;> exact absurd h2 (by decide))
/-- A condition is laid in a row, and the statement's value set. -/
theorem valStep {m : Nat} {k : Int} {x : ByteArray} {B2 B3 B6 B7 : Option Addr} {c2 c3 c6 c7 : Nat} {i v : Exs} {t e : Sts} {k1 n1 o1 : Int} {x1 : ByteArray} {a1 : Exs} {A1 : Option Addr} {l1 : Nat} {w5 : World} (hB0 : C.B ≤ w.heap.size)
    (HB : StB w.heap.size W g k x B2 B3 B6 B7 c2 c3 c6 c7 i v mx l t e) (HS : Sg C s w W) (he : ExOut W.heap.size 3 w5 k1 n1 x1 o1 a1 A1 l1) (hm : Mks C s1 w5) (hg : Gen C.D C.M C.B W w5) :
    StB w.heap.size (w5.alloc (exRow k1 n1 x1 o1 A1 a1.len l1)) g k x B2 B3 B6 B7 c2 c3 c6 c7 i v mx l t e ∧ g < w5.heap.size ∧
    StB w.heap.size ((w5.setCell ⟨g, 3, none⟩ (.slice (some ⟨w5.heap.size, 0, none⟩) 1 1)).alloc (exRow k1 n1 x1 o1 A1 a1.len l1)) g k x B2 (some ⟨w5.heap.size, 0, none⟩) B6 B7 c2 1 c6 c7 i (.cons k1 n1 x1 o1 a1 .nil) mx l t e ∧
    Sg C s1 w ((w5.setCell ⟨g, 3, none⟩ (.slice (some ⟨w5.heap.size, 0, none⟩) 1 1)).alloc (exRow k1 n1 x1 o1 A1 a1.len l1)) := by
  have h5 := HB.step HS.1 hg
  have hbe := (Below.refl w5.heap.size w5).alloc (Nat.le_refl _) (exRow k1 n1 x1 o1 A1 a1.len l1)
  have h6 : StB w.heap.size (w5.alloc (exRow k1 n1 x1 o1 A1 a1.len l1)) g k x B2 B3 B6 B7 c2 c3 c6 c7 i v mx l t e := h5.keep hbe.size fun b _ hl => hbe.block b hl
  have he2 := he.below (m := W.heap.size) hbe (Nat.le_refl _)
  have hrow := at_row1 (Blk.new w5 91 #[.int .i64 k1, .int .i64 n1, .string x1, .int .i64 o1, .slice A1 a1.len l1]) hg.size he2.1 he2.2.2.2.2
  have hs6 : Sg C s1 w (w5.alloc (exRow k1 n1 x1 o1 A1 a1.len l1)) := Sg.alloc ⟨hm, HS.2.trans hg⟩ _
  have hsw := World.setCell_alloc_past (w := w5) (exRow k1 n1 x1 o1 A1 a1.len l1) g 3 (.slice (some ⟨w5.heap.size, 0, none⟩) 1 1) h5.1.lt
  rw [← hsw]
  exact ⟨h6, h5.1.lt, h6.setValue (v' := .cons k1 n1 x1 o1 a1 .nil) HB.1.lt HS.2.size (Nat.le_refl _) hrow, hs6.set h6.1 h6.2.1 (Nat.le_trans hB0 h6.2.1) 3 _⟩
theorem wh_good {k n o : Int} {x : ByteArray} {a : Exs} {lab : Int} {t : Sts} {h : Nat} (hc : CondG k n x o a) (hmx : 0 ≤ mx ∧ mx ≤ 5) (hl : 1 ≤ lab ∧ lab ≤ 12) (ht : t.Good ∧ t.height ≤ h ∧ t.len ≤ 5) :
    (Sts.cons 4 ⟨#[]⟩ .nil (.cons k n x o a .nil) mx lab t .nil .nil).Good ∧ (Sts.cons 4 ⟨#[]⟩ .nil (.cons k n x o a .nil) mx lab t .nil .nil).height ≤ h + 1 := by
  obtain ⟨h1, h2, h3⟩ := hc
  refine ⟨⟨.inr (.inr (.inr (.inl ⟨rfl, rfl, rfl, rfl, hmx, hl, rfl⟩))), ⟨trivial, by simp [Exs.height]⟩, ⟨⟨h1, h2, trivial⟩, by simp [Exs.height]; omega⟩, ⟨ht.1, by omega⟩, ⟨trivial, by simp [Sts.len]⟩, trivial⟩, ?_⟩
  simp only [Sts.height]
  omega
/-- A loop's variable is put behind the others. -/
theorem pushStep {m : Nat} {k : Int} {x : ByteArray} {B2 B3 B6 B7 : Option Addr} {c2 c3 c6 c7 : Nat} {i v : Exs} {t e : Sts} {w10 w11 : World} {s : Ms} {y : ByteArray} {gt gl lcap : Nat} {cs : Array Value}
    (HS : Sg C s w w10) (HB : StB m w10 g k x B2 B3 B6 B7 c2 c3 c6 c7 i v mx l t e) (HT : Blk w10 gt 91 cs) (hy : Nm y)
    (hown : w11.ownsRow C.B 9 1 (.slice (some ⟨gl, 0, none⟩) (s.ls.length + 1) lcap) (s.ls.length + 1) (s.ls.map Value.string ++ [Value.string y]))
    (hg : (w10.alloc (.cells #[.string y] 9)).grownBy w11 (Value.slice s.la s.ls.length s.lc).ownBlock) (hl : s.ls.length ≤ 1) (hin : (s.ls.length : Int) + 1 ≤ s.inl) :
    (∃ u, w11.cell? ⟨C.M, 2, none⟩ = some u) ∧ w11.frozen? ⟨C.M, 2, none⟩ = false ∧
      (Sg C { s with la := some ⟨gl, 0, none⟩, lc := lcap, ls := s.ls ++ [y] } w (w11.setCell ⟨C.M, 2, none⟩ (.slice (some ⟨gl, 0, none⟩) (s.ls.length + 1) lcap)) ∧
       StB m (w11.setCell ⟨C.M, 2, none⟩ (.slice (some ⟨gl, 0, none⟩) (s.ls.length + 1) lcap)) g k x B2 B3 B6 B7 c2 c3 c6 c7 i v mx l t e ∧ Blk (w11.setCell ⟨C.M, 2, none⟩ (.slice (some ⟨gl, 0, none⟩) (s.ls.length + 1) lcap)) gt 91 cs) := by
  have hn := HS.1.nums
  have hba := HS.1.base
  have hrow := HS.1.row
  -- blocks that are no row of texts are kept
  have hk : ∀ b, b < w10.heap.size → (C.B ≤ b → tagOf w10 b ≠ some 9) → w11.heap[b]? = w10.heap[b]? := fun b hb ht => by
    have h1 := Below.heap_alloc w10 (.cells #[.string y] 9) b hb
    rw [hg.block b (by simp; omega) (fun e => by
      obtain ⟨q1, q2, q3⟩ := own_tag hrow e.symm
      exact ht q3 q1), h1]
  have hMB : C.M < C.B := hn.2.2.2.2.2.2.2.2.1
  have hDB : C.D < C.B := hn.2.2.2.2.2.2.2.1
  have hDM : C.D < C.M := hn.2.2.2.2.2.2.2.2.2
  have hlow : ∀ b, b < C.B → w11.heap[b]? = w10.heap[b]? := fun b hb => hk b (by omega) (fun h => by omega)
  have hbM : Blk w11 C.M _ _ := (hlow _ hMB).trans HS.1.blk
  have hsz : w10.heap.size ≤ w11.heap.size := by have := hg.size; simp at this; omega
  refine ⟨⟨_, hbM.cell 2⟩, hbM.frozen 2, ⟨⟨?_, ?_⟩, ?_, ?_⟩⟩
  · have hkM : ∀ b, b ≠ C.M → (w11.setCell ⟨C.M, 2, none⟩ (.slice (some ⟨gl, 0, none⟩) (s.ls.length + 1) lcap)).heap[b]? = w11.heap[b]? := fun b hb => Below.heap_setCell w11 _ _ b hb
    have hz2 : w10.heap.size ≤ (w11.setCell ⟨C.M, 2, none⟩ (.slice (some ⟨gl, 0, none⟩) (s.ls.length + 1) lcap)).heap.size := by simpa using hsz
    refine ⟨HS.1.deck.keep hz2 ((hkM _ (by omega)).trans (hlow _ hDB)) fun b hb => (hkM b (by omega)).trans (hlow b (by omega)), ?_, HS.1.vars.keep hz2 fun b _ hB _ hM => (hkM b hM).trans (hlow b hB), HS.1.arrs.keep hz2 fun b _ hB _ hM => (hkM b hM).trans (hlow b hB), HS.1.shrd.keep hz2 fun b _ hB _ hM => (hkM b hM).trans (hlow b hB), ?_, hn, by have := hba; omega, ?_⟩
    · have h2 := hbM.set 2 (.slice (some ⟨gl, 0, none⟩) (s.ls.length + 1) lcap)
      simp only [List.length_append, List.length_cons, List.length_nil]
      exact h2
    · simp only [List.length_append, List.length_cons, List.length_nil, List.map_append, List.map_cons, List.map_nil]
      refine own_keep hown (by simp) fun q hq => hkM q ?_
      have hq2 := own_tag hown hq
      omega
    · have hL := HS.1.lims
      refine ⟨by simp; omega, fun z hz => ?_, hL.2.2.1, hL.2.2.2.1, hL.2.2.2.2.1, by simp; omega, hL.2.2.2.2.2.2⟩
      rcases List.mem_append.1 hz with hz | hz
      · exact hL.2.1 z hz
      · simp at hz; rw [hz]; exact hy
  · have h1 : Gen C.D C.M C.B w w11 := ⟨hg.os.trans HS.2.os, hg.tape.trans HS.2.tape, hg.output.trans HS.2.output, Nat.le_trans HS.2.size hsz, fun b hb hD hM ht => by
      have e1 := HS.2.block b hb hD hM ht
      rw [hk b (Nat.lt_of_lt_of_le hb HS.2.size) (fun hB => by rw [tag_same e1]; exact ht hB), e1]⟩
    exact h1.set (.inr (.inl rfl)) _
  · refine HB.keep (by simpa using hsz) fun b hb hl => ?_
    have hne : b ≠ C.M := by
      rintro rfl
      have h2 := HS.1.blk.tag
      rcases hb with hb | hb <;> rw [hb] at h2 <;> exact absurd h2 (by decide)
    rw [Below.heap_setCell _ _ _ _ hne]
    exact hk b hl fun _ => by rcases hb with hb | hb <;> rw [hb] <;> decide
  · have hne : gt ≠ C.M := tag_ne HT.tag HS.1.blk.tag (by decide)
    have h1 : Blk w11 gt 91 cs := (hk gt HT.lt fun _ => by rw [HT.tag]; decide).trans HT
    exact h1.far hne _
/-- Between a loop's variable and its condition: the top's block, and the loop's own but for its value. -/
def Lk (C : Cx) (s : Ms) (w : World) (gt g : Nat) (kt nt : Int) (xt : ByteArray) (mx l : Int) (W : World) : Prop :=
  Sg C s w W ∧ Blk W gt 91 #[.int .i64 kt, .int .i64 nt, .string xt, .int .i64 0, .slice none 0 0] ∧ w.heap.size ≤ g ∧ C.B ≤ w.heap.size ∧
    ∃ u, Blk W g 88 #[.int .i64 4, .string ⟨#[]⟩, .slice none 0 0, u, .int .i64 mx, .int .i64 l, .slice none 0 0, .slice none 0 0]
section
variable {gt : Nat} {kt nt : Int} {xt : ByteArray} {s : Ms} {W W' : World}
theorem Lk.step (h : Lk C s w gt g kt nt xt mx l W) (hm : Mks C s W') (hg : Gen C.D C.M C.B W W') : Lk C s w gt g kt nt xt mx l W' := by
  obtain ⟨h1, h2, h3, h3', u, h4⟩ := h
  exact ⟨h1.step hm hg, h1.1.res hg h2 (.inl rfl), h3, h3', u, h1.1.res hg h4 (.inr rfl)⟩
theorem Lk.below (h : Lk C s w gt g kt nt xt mx l W) (hb : Below W.heap.size W W') : Lk C s w gt g kt nt xt mx l W' := h.step (h.1.1.below hb) (Gen.below hb _ _ _)
theorem Lk.drew (h : Lk C s w gt g kt nt xt mx l W) : Lk C s w gt g kt nt xt mx l W.drew := h.below ⟨rfl, rfl, rfl, Nat.le_refl _, fun _ _ => rfl⟩
theorem Lk.alloc (h : Lk C s w gt g kt nt xt mx l W) (o : Obj) : Lk C s w gt g kt nt xt mx l (W.alloc o) := h.below ((Below.refl _ _).alloc (Nat.le_refl _) o)
theorem Lk.set3 (h : Lk C s w gt g kt nt xt mx l W) (u : Value) : Lk C s w gt g kt nt xt mx l (W.setCell ⟨g, 3, none⟩ u) := by
  obtain ⟨h1, h2, h3, h3', v, h4⟩ := h
  exact ⟨h1.set h4 h3 (Nat.le_trans h3' h3) 3 u, h2.far (tag_ne h2.tag h4.tag (by decide)) u, h3, h3', u, h4.set 3 u⟩
theorem Lk.holds (h : Lk C s w gt g kt nt xt mx l W) : W.cell? ⟨C.M, 0, none⟩ = some (.pointer (some ⟨C.D, 0, none⟩)) ∧ W.cell? ⟨gt, 0, none⟩ = some (.int .i64 kt) ∧ W.cell? ⟨gt, 1, none⟩ = some (.int .i64 nt) ∧ W.cell? ⟨gt, 2, none⟩ = some (.string xt) ∧ W.cell? ⟨gt, 3, none⟩ = some (.int .i64 0) ∧ W.cell? ⟨gt, 4, none⟩ = some (.slice none 0 0) ∧
    Lk C s w gt g kt nt xt mx l W := ⟨h.1.1.c0, h.2.1.cell 0, h.2.1.cell 1, h.2.1.cell 2, h.2.1.cell 3, h.2.1.cell 4, h⟩
theorem Lk.c3 (h : Lk C s w gt g kt nt xt mx l W) : ∃ u, W.cell? ⟨g, 3, none⟩ = some u ∧ W.frozen? ⟨g, 3, none⟩ = false ∧ g < W.heap.size := by
  obtain ⟨_, _, _, _, u, h4⟩ := h
  exact ⟨u, h4.cell 3, h4.frozen 3, h4.lt⟩
theorem Lk.next (h : Lk C s w gt g kt nt xt mx l W) (n : Int) (hn : 0 ≤ n ∧ n ≤ 1000000) :
    Calls Tryd.prog 30 #[.pointer (some ⟨C.D, 0, none⟩), .int .i64 n] W fun e w' => ∃ r : Int, e = .returned (.int .i64 r) ∧ In n r ∧ Lk C s w gt g kt nt xt mx l w' :=
  (next_mk h.1.1 n hn).mono fun e w' ⟨r, he, h0, h1, hm, hg⟩ => ⟨r, he, ⟨h0, h1⟩, h.step hm hg⟩
theorem Lk.nam (h : Lk C s w gt g kt nt xt mx l W) (x : ByteArray) : Calls Tryd.prog 84 #[.string x] W fun e w' => e = .returned (.agg #[.int .i64 2, .int .i64 0, .string x, .int .i64 0, .slice none 0 0]) ∧ Lk C s w gt g kt nt xt mx l w' :=
  (nam_any x W).mono fun e w' ⟨he, hb⟩ => ⟨he, h.below hb⟩
/-- What Bin leaves of a name and the top. -/
def BinTop (x : ByteArray) (kt nt : Int) (xt : ByteArray) (g0 g : Nat) (w' : World) : Prop :=
  g0 < g ∧ Blk w' g 91 #[.int .i64 2, .int .i64 0, .string x, .int .i64 0, .slice none (Exs.nil).len 0, .int .i64 kt, .int .i64 nt, .string xt, .int .i64 0, .slice none (Exs.nil).len 0]
theorem Lk.bin (h : Lk C s w gt g kt nt xt mx l W) (op : Int) (x : ByteArray) :
    Calls Tryd.prog 82 #[.int .i64 op, .agg #[.int .i64 2, .int .i64 0, .string x, .int .i64 0, .slice none 0 0], .agg #[.int .i64 kt, .int .i64 nt, .string xt, .int .i64 0, .slice none 0 0]] W fun e w' =>
      ∃ g', e = .returned (.agg #[.int .i64 4, .int .i64 0, .string ⟨#[]⟩, .int .i64 op, .slice (some ⟨g', 0, none⟩) 2 2]) ∧ BinTop x kt nt xt g g' w' ∧ Lk C s w gt g kt nt xt mx l w' :=
  (bin_any _ _ _ _ _ _ _ _ _ _ _ _ _ _ _ W).mono fun e w' ⟨g', he, hg, hb, hbel⟩ => ⟨g', he, ⟨Nat.lt_of_lt_of_le (by obtain ⟨_, _, h⟩ := h.c3; exact h.2) hg, hb⟩, h.below hbel⟩
/-- The condition is set. -/
theorem Lk.leaf {w4 : World} {op : Int} {y : ByteArray} {g' : Nat} {r : Int} (h : Lk C s w gt g kt nt xt mx l w4) (hr : In 2 r) (hop : op = IntKind.i64.wrap (11 + r)) (hy : Nm y) (ht : Node kt nt xt 0 0) (hb : BinTop y kt nt xt g g' w4) :
    CondG 4 0 ⟨#[]⟩ op (.cons 2 0 y 0 .nil (.cons kt nt xt 0 .nil .nil)) ∧ Sg C s w ((w4.setCell ⟨g, 3, none⟩ (.slice (some ⟨w4.heap.size, 0, none⟩) 1 1)).alloc (exRow 4 0 ⟨#[]⟩ op (some ⟨g', 0, none⟩) 2 2)) ∧
    StB w.heap.size ((w4.setCell ⟨g, 3, none⟩ (.slice (some ⟨w4.heap.size, 0, none⟩) 1 1)).alloc (exRow 4 0 ⟨#[]⟩ op (some ⟨g', 0, none⟩) 2 2)) g 4 ⟨#[]⟩ none (some ⟨w4.heap.size, 0, none⟩) none none 0 1 0 0 .nil (.cons 4 0 ⟨#[]⟩ op (.cons 2 0 y 0 .nil (.cons kt nt xt 0 .nil .nil)) .nil) mx l .nil .nil := by
  have hop2 : 1 ≤ op ∧ op ≤ 14 := by
    have h1 := hr.1
    have h2 := hr.2
    rw [hop, IntWalk.i64_in _ (by omega)]
    omega
  have hz := h.1.2.size
  have hg1 := h.2.2.1
  obtain ⟨_, _, _, hlt⟩ := h.c3
  obtain ⟨hgg, hb⟩ := hb
  refine ⟨⟨.inr (.inr (.inr ⟨rfl, rfl, rfl, hop2, rfl⟩)), ⟨.inr (.inl ⟨rfl, rfl, hy, rfl, rfl⟩), trivial, ht, trivial, trivial⟩, by simp [Exs.height]⟩, ((h.set3 _).alloc _).1, ?_⟩
  obtain ⟨_, _, _, _, u, h4⟩ := h
  have hs : (w4.setCell ⟨g, 3, none⟩ (.slice (some ⟨w4.heap.size, 0, none⟩) 1 1)).heap.size = w4.heap.size := by simp
  have hrow := Blk.new (w4.setCell ⟨g, 3, none⟩ (.slice (some ⟨w4.heap.size, 0, none⟩) 1 1)) 91 #[.int .i64 4, .int .i64 0, .string ⟨#[]⟩, .int .i64 op, .slice (some ⟨g', 0, none⟩) 2 2]
  rw [hs] at hrow
  have hb2 : Blk ((w4.setCell ⟨g, 3, none⟩ (.slice (some ⟨w4.heap.size, 0, none⟩) 1 1)).alloc (exRow 4 0 ⟨#[]⟩ op (some ⟨g', 0, none⟩) 2 2)) g' 91 _ := (hb.far (by show g' ≠ g; omega) _).alloc _
  have hS : Fr w.heap.size ((w4.setCell ⟨g, 3, none⟩ (.slice (some ⟨w4.heap.size, 0, none⟩) 1 1)).alloc (exRow 4 0 ⟨#[]⟩ op (some ⟨g', 0, none⟩) 2 2)) g' ∧ g' ≠ g := ⟨⟨by omega, .inl hb2.tag⟩, by omega⟩
  exact st_of (a := .cons 2 0 y 0 .nil (.cons kt nt xt 0 .nil .nil)) ((h4.set 3 _).alloc _) hrow (by omega) hz hg1 (Nat.le_refl _)
    ⟨g', 0, rfl, hS, hb2.lt, hb2.cell 0, hb2.cell 1, hb2.cell 2, hb2.cell 3, ⟨none, 0, hb2.cell 4, Nat.le_refl _, trivial⟩, g', 5, rfl, hS, hb2.lt, hb2.cell 5, hb2.cell 6, hb2.cell 7, hb2.cell 8, ⟨none, 0, hb2.cell 9, Nat.le_refl _, trivial⟩, trivial⟩
end
end
end Go.Proofs.YtbppfhlpielpcaaDoor
namespace Go.Proofs.YtbppfhlpielpcaaDoor
open Go.RowKit
set_option linter.unusedVariables false
section
variable {C : Cx} {s s1 : Ms} {w w0 W Wa w17 : World} {g h : Nat} {k : Int} {x : ByteArray} {B2 B3 B6 B7 : Option Addr} {c2 c3 c6 c7 : Nat} {i v : Exs} {mx l : Int} {t e t3 : Sts} {v1 v3 : Value}
/-- 'v = v + step' -/
def incSt (y : ByteArray) (n : Int) : Sts := .cons 1 y .nil (.cons 4 0 ⟨#[]⟩ 1 (.cons 2 0 y 0 .nil (.cons 1 n ⟨#[]⟩ 0 .nil .nil)) .nil) 0 0 .nil .nil .nil
abbrev incRow (y : ByteArray) (q : Nat) : Obj := .cells #[.int .i64 1, .string y, .slice none 0 0, .slice (some ⟨q, 0, none⟩) 1 1, .int .i64 0, .int .i64 0, .slice none 0 0, .slice none 0 0] 88
theorem incOut {w16 : World} {m g2 : Nat} {y : ByteArray} {n : Int} (hy : Nm y) (hn : -2147483647 ≤ n ∧ n ≤ 2147483647) (hm : m ≤ w16.heap.size) (hg : m ≤ g2)
    (hb : Blk w16 g2 91 #[.int .i64 2, .int .i64 0, .string y, .int .i64 0, .slice none 0 0, .int .i64 1, .int .i64 n, .string ⟨#[]⟩, .int .i64 0, .slice none 0 0]) :
    StOut m 1 ((w16.alloc (exRow 4 0 ⟨#[]⟩ 1 (some ⟨g2, 0, none⟩) 2 2)).alloc (incRow y w16.heap.size)) (incSt y n) (.slice (some ⟨w16.heap.size + 1, 0, none⟩) 1 1) := by
  have hex : ExOut m 2 w16 4 0 ⟨#[]⟩ 1 (.cons 2 0 y 0 .nil (.cons 1 n ⟨#[]⟩ 0 .nil .nil)) (some ⟨g2, 0, none⟩) 2 := bin_out ⟨by omega, by omega⟩ (nam_out _ 1 (by omega) _ y hy) (num_out _ 1 (by omega) _ n hn) hb hg
  have he2 := hex.below (m := m) ((Below.refl _ w16).alloc (Nat.le_refl _) (exRow 4 0 ⟨#[]⟩ 1 (some ⟨g2, 0, none⟩) 2 2)) (Nat.le_refl _)
  have hr := at_row1 (Blk.new w16 91 #[.int .i64 4, .int .i64 0, .string ⟨#[]⟩, .int .i64 1, .slice (some ⟨g2, 0, none⟩) (Exs.cons 2 0 y 0 .nil (.cons 1 n ⟨#[]⟩ 0 .nil .nil)).len 2]) hm he2.1 he2.2.2.2.2
  have ho := row_out (k := 1) (x := y) (i := .nil) (B2 := none) (c2 := 0) (c3 := 1) (mx := 0) (l := 0) (t := .nil) (e := .nil) (B6 := none) (B7 := none) (c6 := 0) (c7 := 0) (ht := 1) (W0 := w16.alloc (exRow 4 0 ⟨#[]⟩ 1 (some ⟨g2, 0, none⟩) 2 2)) (m := m) (by simp; omega) ⟨Nat.le_refl _, trivial⟩ ⟨Nat.le_refl _, hr⟩ ⟨Nat.le_refl _, trivial⟩ ⟨Nat.le_refl _, trivial⟩
    ⟨.inl ⟨rfl, hy, rfl, rfl, rfl, rfl, rfl, rfl⟩, ⟨trivial, by simp [Exs.height]⟩, ⟨⟨hex.2.1, hex.2.2.1, trivial⟩, by simp [Exs.height]⟩, ⟨trivial, by simp [Sts.len]⟩, ⟨trivial, by simp [Sts.len]⟩, trivial⟩ (by simp [Sts.height])
  rw [World.size_alloc] at ho
  exact ho
/-- The body is set, behind the append onto the block's own row. -/
theorem appStep {n : Nat} {xs : List Value} (hB0 : C.B ≤ w.heap.size) (HB : StB w.heap.size W g k x B2 B3 B6 B7 c2 c3 c6 c7 i v mx l t e) (HS : Sg C s w W) (hSa : Sg C s1 w Wa) (hga : Gen C.D C.M C.B W Wa)
    (ho : Wa.ownsRow W.heap.size 88 8 v1 n xs) (hgr : Wa.grownBy w17 v1.ownBlock) (h3 : StOut W.heap.size h w17 t3 v3) :
    ∃ A c, v3 = .slice A t3.len c ∧ StB w.heap.size w17 g k x B2 B3 B6 B7 c2 c3 c6 c7 i v mx l t e ∧ g < w17.heap.size ∧ StB w.heap.size (w17.setCell ⟨g, 6, none⟩ (.slice A t3.len c)) g k x B2 B3 A B7 c2 c3 c c7 i v mx l t3 e ∧ Sg C s1 w (w17.setCell ⟨g, 6, none⟩ (.slice A t3.len c)) := by
  obtain ⟨A, c, rfl, hc, ha⟩ := h3.at
  have hW := HS.2.size
  have h5 : StB w.heap.size w17 g k x B2 B3 B6 B7 c2 c3 c6 c7 i v mx l t e := HB.keep (Nat.le_trans hga.size hgr.size) fun b hb hl => by
    rw [hgr.block b (Nat.lt_of_lt_of_le hl hga.size) (fun q => by have := (ho.lt b q.symm).1; omega)]
    exact hga.tr HS.1.dTag HS.1.mTag hb hl
  have hs17 : Sg C s1 w w17 := ⟨mk_grown hSa.1 hgr ho (Nat.le_trans hB0 hW), gen_grown hSa.2 hgr fun q hq => by have := (ho.lt q hq).1; omega⟩
  exact ⟨A, c, rfl, h5, h5.1.lt, h5.setThen HB.1.lt hW hc ha, hs17.set h5.1 h5.2.1 (Nat.le_trans hB0 h5.2.1) 6 _⟩
/-- The last of the loops' variables is taken away. -/
theorem popStep {ls : List ByteArray} {y : ByteArray} (hs : Sg C s w W) (hl : s.ls = ls ++ [y]) (hA : ∃ gl, s.la = some ⟨gl, 0, none⟩) : Sg C { s with ls := ls } w (W.setCell ⟨C.M, 2, none⟩ (.slice s.la ls.length s.lc)) := by
  have hn := hs.1.nums
  have hk : ∀ b, b ≠ C.M → (W.setCell ⟨C.M, 2, none⟩ (.slice s.la ls.length s.lc)).heap[b]? = W.heap[b]? := fun b hb => Below.heap_setCell W _ _ b hb
  have hDM : C.D < C.M := hn.2.2.2.2.2.2.2.2.2
  have hlen : s.ls.length = ls.length + 1 := by rw [hl]; simp
  have hL := hs.1.lims
  refine ⟨⟨hs.1.deck.keep (by simp) (hk _ (by omega)) fun b hb => hk b (by omega), hs.1.blk.set 2 (.slice s.la ls.length s.lc), hs.1.vars.keep (by simp) fun b _ _ _ hb => hk b hb, hs.1.arrs.keep (by simp) fun b _ _ _ hb => hk b hb, hs.1.shrd.keep (by simp) fun b _ _ _ hb => hk b hb, ?_, hn, by simpa using hs.1.base, by simp only; omega, fun z hz => hL.2.1 z (by rw [hl]; exact List.mem_append_left _ hz), hL.2.2.1, hL.2.2.2.1, hL.2.2.2.2.1, by simp only; have := hL.2.2.2.2.2.1; omega, hL.2.2.2.2.2.2⟩, hs.2.set (.inr (.inl rfl)) _⟩
  obtain ⟨gl, hla⟩ := hA
  have hr := hs.1.row
  rcases hr.2 with ⟨e, _⟩ | ⟨gg, cap, cur, e, hB, hg, hc1, hc2, hc3, hc4⟩
  · rw [hla] at e; simp at e
  · injection e with e1 e2 e3
    have hne : gg ≠ C.M := by have := hn.2.2.2.2.2.2.2.2.1; omega
    simp only
    rw [e1, e3]
    refine ⟨by simp, .inr ⟨gg, cap, cur, rfl, hB, (by have q := (hk gg hne).trans hg; rw [e1, e3] at q; exact q), by omega, hc2, hc3, ?_⟩⟩
    rw [hl] at hc4
    simp only [List.length_append, List.length_cons, List.length_nil, List.map_append, Nat.mul_one] at hc4 ⊢
    have := congrArg (List.take ls.length) hc4
    rw [List.take_take] at this
    simpa using this
theorem loopAa {w13 w16 : World} {tb : Sts} {vb : Value} {y : ByteArray} {n : Int} {g2 : Nat} (HS : Sg C s1 w w13) (hg : Gen C.D C.M C.B W w13) (ho : StOut W.heap.size h w13 tb vb) (hb : Below w13.heap.size w13 w16)
    (hi : StOut w13.heap.size 1 ((w16.alloc (exRow 4 0 ⟨#[]⟩ 1 (some ⟨g2, 0, none⟩) 2 2)).alloc (incRow y w16.heap.size)) (incSt y n) (.slice (some ⟨w16.heap.size + 1, 0, none⟩) 1 1)) :
    ∃ xs ys, ((w16.alloc (exRow 4 0 ⟨#[]⟩ 1 (some ⟨g2, 0, none⟩) 2 2)).alloc (incRow y w16.heap.size)).ownsRow W.heap.size 88 8 vb tb.len xs ∧
      tb.Rows ((w16.alloc (exRow 4 0 ⟨#[]⟩ 1 (some ⟨g2, 0, none⟩) 2 2)).alloc (incRow y w16.heap.size)) (fun b => Fr W.heap.size ((w16.alloc (exRow 4 0 ⟨#[]⟩ 1 (some ⟨g2, 0, none⟩) 2 2)).alloc (incRow y w16.heap.size)) b ∧ some b ≠ vb.ownBlock) xs ∧ tb.Good ∧ tb.height ≤ h ∧
      Src ((w16.alloc (exRow 4 0 ⟨#[]⟩ 1 (some ⟨g2, 0, none⟩) 2 2)).alloc (incRow y w16.heap.size)) 8 (some ⟨w16.heap.size + 1, 0, none⟩) 1 1 ys ∧
      (incSt y n).Rows ((w16.alloc (exRow 4 0 ⟨#[]⟩ 1 (some ⟨g2, 0, none⟩) 2 2)).alloc (incRow y w16.heap.size)) (fun b => Fr W.heap.size ((w16.alloc (exRow 4 0 ⟨#[]⟩ 1 (some ⟨g2, 0, none⟩) 2 2)).alloc (incRow y w16.heap.size)) b ∧ some b ≠ vb.ownBlock) ys ∧
      (incSt y n).Good ∧ (incSt y n).height ≤ 1 ∧ Sg C s1 w ((w16.alloc (exRow 4 0 ⟨#[]⟩ 1 (some ⟨g2, 0, none⟩) 2 2)).alloc (incRow y w16.heap.size)) ∧ Gen C.D C.M C.B W ((w16.alloc (exRow 4 0 ⟨#[]⟩ 1 (some ⟨g2, 0, none⟩) 2 2)).alloc (incRow y w16.heap.size)) ∧
      W.heap.size ≤ ((w16.alloc (exRow 4 0 ⟨#[]⟩ 1 (some ⟨g2, 0, none⟩) 2 2)).alloc (incRow y w16.heap.size)).heap.size := by
  have hba : Below w13.heap.size w13 ((w16.alloc (exRow 4 0 ⟨#[]⟩ 1 (some ⟨g2, 0, none⟩) 2 2)).alloc (incRow y w16.heap.size)) := (hb.alloc hb.size _).alloc (by rw [World.size_alloc]; exact Nat.le_succ_of_le hb.size) _
  have hrow : ∀ q, vb.ownBlock = some q → q < w13.heap.size := fun q hq => by obtain ⟨_, z, _⟩ := ho; exact (z.lt q hq).2
  obtain ⟨xs, o1, o2, o3, o4⟩ := ho.below (Nat.le_refl _) hba
  obtain ⟨gq, c, ys, e1, e2, e3, e4, e5⟩ := hi.src (by simp [incSt, Sts.len])
  injection e1 with e1 e6 e7
  injection e1 with e1
  injection e1 with e1 _
  subst e1
  have e8 : c = 1 := by omega
  subst e8
  obtain ⟨_, _, _, i3, i4⟩ := hi
  exact ⟨xs, ys, o1, o2, o3, o4, e4, e5.keep (Nat.le_refl _) fun b hb' hl => ⟨⟨⟨Nat.le_trans hg.size hb'.1, hb'.2⟩, fun q => by have := hrow b q.symm; have := hb'.1; omega⟩, fun _ => rfl⟩, i3, i4,
    HS.step (HS.1.below hba) (Gen.below hba _ _ _), hg.trans (Gen.below hba _ _ _), Nat.le_trans hg.size hba.size⟩
theorem popFacts {ls : List ByteArray} {y : ByteArray} (hs : Sg C s w W) (hl : s.ls = ls ++ [y]) : ∃ gl, s.la = some ⟨gl, 0, none⟩ ∧ W.cell? ⟨C.M, 2, none⟩ = some (.slice (some ⟨gl, 0, none⟩) (ls.length + 1) s.lc) ∧ W.frozen? ⟨C.M, 2, none⟩ = false ∧ ls.length + 1 ≤ s.lc ∧ s.lc ≤ maxLen := by
  have hlen : s.ls.length = ls.length + 1 := by rw [hl]; simp
  have hr := hs.1.row
  have c2 := hs.1.c2
  rcases hr.2 with ⟨e, h0⟩ | ⟨gg, cap, cur, e, hB, hg, hc1, hc2, hc3, hc4⟩
  · omega
  · injection e with e1 e2 e3
    rw [e1, hlen] at c2
    exact ⟨gg, e1, c2, hs.1.blk.frozen 2, by omega, by omega⟩
/-- The maker and the loop's statement, before they are handed back. -/
def Fk (C : Cx) (s : Ms) (w : World) (g : Nat) (B3 B6 : Option Addr) (c3 c6 : Nat) (v : Exs) (mx l : Int) (t : Sts) (W : World) : Prop :=
  Sg C s w W ∧ StB w.heap.size W g 4 ⟨#[]⟩ none B3 B6 none 0 c3 c6 0 .nil v mx l t .nil
theorem Fk.step (h : Fk C s w g B3 B6 c3 c6 v mx l t W) (hm : Mks C s Wa) (hg : Gen C.D C.M C.B W Wa) : Fk C s w g B3 B6 c3 c6 v mx l t Wa := ⟨h.1.step hm hg, h.2.step h.1.1 hg⟩
theorem Fk.below (h : Fk C s w g B3 B6 c3 c6 v mx l t W) (hb : Below W.heap.size W Wa) : Fk C s w g B3 B6 c3 c6 v mx l t Wa := h.step (h.1.1.below hb) (Gen.below hb _ _ _)
theorem Fk.drew (h : Fk C s w g B3 B6 c3 c6 v mx l t W) : Fk C s w g B3 B6 c3 c6 v mx l t W.drew := h.below ⟨rfl, rfl, rfl, Nat.le_refl _, fun _ _ => rfl⟩
theorem Fk.alloc (h : Fk C s w g B3 B6 c3 c6 v mx l t W) (o : Obj) : Fk C s w g B3 B6 c3 c6 v mx l t (W.alloc o) := h.below ((Below.refl _ _).alloc (Nat.le_refl _) o)
theorem Fk.holds (h : Fk C s w g B3 B6 c3 c6 v mx l t W) : W.cell? ⟨C.M, 0, none⟩ = some (.pointer (some ⟨C.D, 0, none⟩)) ∧ W.cell? ⟨g, 0, none⟩ = some (.int .i64 4) ∧ W.cell? ⟨g, 1, none⟩ = some (.string ⟨#[]⟩) ∧ W.cell? ⟨g, 2, none⟩ = some (.slice none 0 0) ∧ W.cell? ⟨g, 3, none⟩ = some (.slice B3 v.len c3) ∧
    W.cell? ⟨g, 4, none⟩ = some (.int .i64 mx) ∧ W.cell? ⟨g, 5, none⟩ = some (.int .i64 l) ∧ W.cell? ⟨g, 6, none⟩ = some (.slice B6 t.len c6) ∧ W.cell? ⟨g, 7, none⟩ = some (.slice none 0 0) ∧ Fk C s w g B3 B6 c3 c6 v mx l t W := by
  obtain ⟨⟨q0, q1, q2, q3, q4, q5, q6, q7⟩, _⟩ := h.2.eight
  exact ⟨h.1.1.c0, q0, q1, q2, q3, q4, q5, q6, q7, h⟩
theorem Fk.next (h : Fk C s w g B3 B6 c3 c6 v mx l t W) (n : Int) (hn : 0 ≤ n ∧ n ≤ 1000000) :
    Calls Tryd.prog 30 #[.pointer (some ⟨C.D, 0, none⟩), .int .i64 n] W fun e w' => ∃ r : Int, e = .returned (.int .i64 r) ∧ In n r ∧ Fk C s w g B3 B6 c3 c6 v mx l t w' :=
  (next_mk h.1.1 n hn).mono fun e w' ⟨r, he, h0, h1, hm, hg⟩ => ⟨r, he, ⟨h0, h1⟩, h.step hm hg⟩
theorem Fk.num (h : Fk C s w g B3 B6 c3 c6 v mx l t W) (n : Int) : Calls Tryd.prog 81 #[.int .i64 n] W fun e w' => e = .returned (.agg #[.int .i64 1, .int .i64 n, .string ⟨#[]⟩, .int .i64 0, .slice none 0 0]) ∧ Fk C s w g B3 B6 c3 c6 v mx l t w' :=
  (num_any n W).mono fun e w' ⟨he, hb⟩ => ⟨he, h.below hb⟩
/-- The two statements are handed back. -/
theorem twoFin {w4 : World} {r : Int} {y : ByteArray} {q ht : Nat} (hq : q = w4.heap.size + 1) (h : Fk C s1 w g B3 B6 c3 c6 v mx l t w4) (hr : In 3 r) (hy : Nm y) (hA : Alk s s1) (hgood : (Sts.cons 4 ⟨#[]⟩ .nil v mx l t .nil .nil).Good ∧ (Sts.cons 4 ⟨#[]⟩ .nil v mx l t .nil .nil).height ≤ ht) (hht : 1 ≤ ht) :
    StPost C s ht 1 2 w (.returned (.slice (some ⟨q, 0, none⟩) 2 2)) ((w4.alloc (exRow 1 r ⟨#[]⟩ 0 none 0 0)).alloc (.cells #[.int .i64 1, .string y, .slice none 0 0, .slice (some ⟨w4.heap.size, 0, none⟩) 1 1, .int .i64 0, .int .i64 0, .slice none 0 0, .slice none 0 0,
      .int .i64 4, .string ⟨#[]⟩, .slice none 0 0, .slice B3 v.len c3, .int .i64 mx, .int .i64 l, .slice B6 t.len c6, .slice none 0 0] 88)) := by
  subst hq
  have hr1 := hr.1
  have hr2 := hr.2
  have hz := h.1.2.size
  generalize hO : (Obj.cells #[.int .i64 1, .string y, .slice none 0 0, .slice (some ⟨w4.heap.size, 0, none⟩) 1 1, .int .i64 0, .int .i64 0, .slice none 0 0, .slice none 0 0, .int .i64 4, .string ⟨#[]⟩, .slice none 0 0, .slice B3 v.len c3, .int .i64 mx, .int .i64 l, .slice B6 t.len c6, .slice none 0 0] 88) = O
  have h5 := h.alloc (exRow 1 r ⟨#[]⟩ 0 none 0 0)
  have hrow : (Exs.cons 1 r ⟨#[]⟩ 0 .nil .nil).At (w4.alloc (exRow 1 r ⟨#[]⟩ 0 none 0 0)) (Fr w.heap.size (w4.alloc (exRow 1 r ⟨#[]⟩ 0 none 0 0))) (some ⟨w4.heap.size, 0, none⟩) := at_row1 (a := .nil) (Blk.new w4 91 #[.int .i64 1, .int .i64 r, .string ⟨#[]⟩, .int .i64 0, .slice none 0 0]) hz (Nat.le_refl _) trivial
  have hk : ∀ b, Fr w.heap.size (w4.alloc (exRow 1 r ⟨#[]⟩ 0 none 0 0)) b → b < (w4.alloc (exRow 1 r ⟨#[]⟩ 0 none 0 0)).heap.size → (Fr w.heap.size ((w4.alloc (exRow 1 r ⟨#[]⟩ 0 none 0 0)).alloc O) b ∧ some b ≠ (Value.slice (some ⟨w4.heap.size + 1, 0, none⟩) 2 2).ownBlock) ∧ ∀ f, ((w4.alloc (exRow 1 r ⟨#[]⟩ 0 none 0 0)).alloc O).cell? ⟨b, f, none⟩ = (w4.alloc (exRow 1 r ⟨#[]⟩ 0 none 0 0)).cell? ⟨b, f, none⟩ := fun b hb hl => by
    have q := Below.heap_alloc (w4.alloc (exRow 1 r ⟨#[]⟩ 0 none 0 0)) O b hl
    rw [World.size_alloc] at hl
    exact ⟨⟨⟨hb.1, by unfold Tr; rw [tag_same q]; exact hb.2⟩, by intro e; simp [Value.ownBlock] at e; omega⟩, fun f => World.cell?_of_block q⟩
  have hk2 : ∀ b, (Fr w.heap.size (w4.alloc (exRow 1 r ⟨#[]⟩ 0 none 0 0)) b ∧ b ≠ g) → b < (w4.alloc (exRow 1 r ⟨#[]⟩ 0 none 0 0)).heap.size → _ := fun b hb hl => hk b hb.1 hl
  obtain ⟨h1, hm', h2, h3, h4, h5'⟩ := h5.2
  refine ⟨.cons 1 y .nil (.cons 1 r ⟨#[]⟩ 0 .nil .nil) 0 0 .nil .nil (.cons 4 ⟨#[]⟩ .nil v mx l t .nil .nil), _, s1, rfl, ⟨_, ?_, ⟨none, 0, some ⟨w4.heap.size, 0, none⟩, 1, none, 0, none, 0, _, rfl, ⟨Nat.le_refl _, trivial⟩, ⟨Nat.le_refl _, hrow.keep (by simp) hk⟩, ⟨Nat.le_refl _, trivial⟩, ⟨Nat.le_refl _, trivial⟩, none, 0, B3, c3, B6, c6, none, 0, [], rfl, ⟨Nat.le_refl _, trivial⟩, ⟨h3.1, h3.2.keep (by simp) hk2⟩, ⟨h4.1, h4.2.keep (by simp) hk2⟩, ⟨Nat.le_refl _, trivial⟩, rfl⟩,
    ⟨.inl ⟨rfl, hy, rfl, rfl, rfl, rfl, rfl, rfl⟩, ⟨trivial, by simp [Exs.height]⟩, ⟨⟨.inl ⟨rfl, by omega, rfl, rfl, rfl⟩, trivial, trivial⟩, by simp [Exs.height]⟩, ⟨trivial, by simp [Sts.len]⟩, ⟨trivial, by simp [Sts.len]⟩, hgood.1⟩, by have := hgood.2; simp only [Sts.height] at this ⊢; omega⟩, by simp [Sts.len], by simp [Sts.len], (h5.alloc O).1.1, (h5.alloc O).1.2, hA⟩
  subst hO
  have := World.ownsRow_lit (base := w.heap.size) (e := 88) (size := 8) (w4.alloc (exRow 1 r ⟨#[]⟩ 0 none 0 0)) #[.int .i64 1, .string y, .slice none 0 0, .slice (some ⟨w4.heap.size, 0, none⟩) 1 1, .int .i64 0, .int .i64 0, .slice none 0 0, .slice none 0 0, .int .i64 4, .string ⟨#[]⟩, .slice none 0 0, .slice B3 v.len c3, .int .i64 mx, .int .i64 l, .slice B6 t.len c6, .slice none 0 0] 2 (by rw [World.size_alloc]; omega) (by unfold maxLen; omega) rfl
  rw [World.size_alloc] at this
  exact this
/-- The top of a loop is set anew. -/
theorem topSet {gt : Nat} {a b c d e' : Value} (hB0 : C.B ≤ w.heap.size) (HS : Sg C s w W) (HB : StB w.heap.size W g 4 ⟨#[]⟩ none none none none 0 0 0 0 .nil .nil mx l .nil .nil) (HT : Blk W gt 91 #[a, b, c, d, e']) (hg : w.heap.size ≤ gt) (a1 b1 c1 d1 e1 : Value) :
    Sg C s w (set5 W gt a1 b1 c1 d1 e1) ∧ StB w.heap.size (set5 W gt a1 b1 c1 d1 e1) g 4 ⟨#[]⟩ none none none none 0 0 0 0 .nil .nil mx l .nil .nil ∧ Blk (set5 W gt a1 b1 c1 d1 e1) gt 91 #[a1, b1, c1, d1, e1] := by
  have hne : g ≠ gt := tag_ne HB.1.tag HT.tag (by decide)
  refine ⟨⟨HS.1.set5 HT (Nat.le_trans hB0 hg), gen_set5 HS.2 hg _ _ _ _ _⟩, wh_of ?_ HB.2.1, HT.set5⟩
  exact ((((HB.1.far (p := ⟨gt, 0, none⟩) hne a1).far (p := ⟨gt, 1, none⟩) hne b1).far (p := ⟨gt, 2, none⟩) hne c1).far (p := ⟨gt, 3, none⟩) hne d1).far (p := ⟨gt, 4, none⟩) hne e1
end
end Go.Proofs.YtbppfhlpielpcaaDoor
