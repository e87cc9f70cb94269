/- PrintDeep: its walk. No condition. -/
import Derived.Test.YtaabhlkhddkglaaDoorPdMake
import Derived.Test.YtaabhlkhddkglaaDoorPdOpen
import Derived.Test.YtaabhlkhddkglaaDoorStLast
namespace Go.Proofs.YtaabhlkhddkglaaDoor
open Go.RowKit Tk
set_option linter.unusedVariables false
set_option linter.unusedSimpArgs false
set_option maxRecDepth 100000
attribute [local go_sem] y_undef
/-- The expression that the law builds, after so many steps: at block X, its arguments in later blocks. -/
def Tx (X i : Nat) (u : World) (k n o : Int) (s : ByteArray) (a : Exs) (A : Option Addr) (c : Nat) : Prop :=
  Blk u X 26 (exV k n o s A a.len c) ∧ a.len ≤ c ∧ a.At u (fun b => PkBlk u b ∧ X < b) A ∧ (shB k n s o a.len = true ∧ a.sh) ∧ (a.height = i ∧ a.size ≤ 2 * i) ∧ (Exs.cons k n s o a .nil).Wf
theorem run_min2 (a b : Int) (w : World) : (Builtin.min_ #[3, 3] 3 #[.int .i64 a, .int .i64 b]).run Tryd.prog w = .ok (.int .i64 (min a b)) w := by
  have e : (if b < a then b else a) = min a b := by rw [Int.min_def]; split <;> split <;> omega
  simp [Builtin.min_, Builtin.min2, e]
theorem Tx.below {X i : Nat} {u u' : World} {k n o : Int} {s : ByteArray} {a : Exs} {A : Option Addr} {c : Nat} (h : Tx X i u k n o s a A c) (hb : Below u.heap.size u u') : Tx X i u' k n o s a A c :=
  ⟨h.1.below hb h.1.lt, h.2.1, h.2.2.1.keep hb.size fun q hq hl => ⟨⟨hq.1.below hb, hq.2⟩, fun f => hb.cell (p := ⟨q, f, none⟩) hl⟩, h.2.2.2⟩
/-- Five stores into the cells of a block. -/
abbrev set5 (u : World) (X : Nat) (v0 v1 v2 v3 v4 : Value) : World := ((((u.setCell ⟨X, 0, none⟩ v0).setCell ⟨X, 1, none⟩ v1).setCell ⟨X, 2, none⟩ v2).setCell ⟨X, 3, none⟩ v3).setCell ⟨X, 4, none⟩ v4
section
variable {u : World} {X : Nat} {v0 v1 v2 v3 v4 : Value}
theorem set5_heap {b : Nat} (h : b ≠ X) : (set5 u X v0 v1 v2 v3 v4).heap[b]? = u.heap[b]? := by
  unfold set5
  rw [Below.heap_setCell _ _ _ _ h, Below.heap_setCell _ _ _ _ h, Below.heap_setCell _ _ _ _ h, Below.heap_setCell _ _ _ _ h, Below.heap_setCell _ _ _ _ h]
theorem set5_below {w : World} {B : Nat} (h : Below B w u) (hX : B ≤ X) : Below B w (set5 u X v0 v1 v2 v3 v4) := ((((h.setCell hX _).setCell hX _).setCell hX _).setCell hX _).setCell hX _
theorem set5_blk {t : TypeId} {k n o : Int} {s : ByteArray} {A : Option Addr} {l c : Nat} (h : Blk u X t (exV k n o s A l c)) : Blk (set5 u X v0 v1 v2 v3 v4) X t #[v0, v1, v2, v3, v4] := ((((h.set 0 v0).set 1 v1).set 2 v2).set 3 v3).set 4 v4
theorem set5_at {a : Exs} {A : Option Addr} (h : a.At u (fun b => PkBlk u b ∧ X < b) A) : a.At (set5 u X v0 v1 v2 v3 v4) (fun b => PkBlk (set5 u X v0 v1 v2 v3 v4) b ∧ X < b) A :=
  h.keep (set5_below (Below.refl 0 u) (Nat.zero_le _)).size fun q hq hl => by
    have e := set5_heap (u := u) (v0 := v0) (v1 := v1) (v2 := v2) (v3 := v3) (v4 := v4) (show q ≠ X by omega)
    obtain ⟨⟨c, t, hc⟩, hlt⟩ := hq
    exact ⟨⟨⟨c, t, e.trans hc⟩, hlt⟩, fun f => World.cell?_of_block e⟩
end
theorem set5_size {u : World} {X : Nat} {v0 v1 v2 v3 v4 : Value} : (set5 u X v0 v1 v2 v3 v4).heap.size = u.heap.size := by simp [set5]
theorem Tx.index {X i : Nat} {u : World} {k n o : Int} {s : ByteArray} {a : Exs} {A : Option Addr} {c : Nat} (h : Tx X i u k n o s a A c) (hi : i < 24) :
    Tx X (i + 1) ((set5 u X (.int .i64 3) (.int .i64 0) (.string ⟨#[98]⟩) (.int .i64 0) (.slice (some ⟨u.heap.size, 0, none⟩) 1 1)).alloc (.cells (exV k n o s A a.len c) 26)) 3 0 0 ⟨#[98]⟩ (.cons k n s o a .nil) (some ⟨u.heap.size, 0, none⟩) 1 := by
  have hX := h.1.lt
  obtain ⟨hx, hc, hat, ⟨hs1, hs2⟩, ⟨hh, hz⟩, hwf⟩ := h
  have hx1 := set5_blk (v0 := .int .i64 3) (v1 := .int .i64 0) (v2 := .string ⟨#[98]⟩) (v3 := .int .i64 0) (v4 := .slice (some ⟨u.heap.size, 0, none⟩) 1 1) hx
  have hat1 := set5_at (v0 := .int .i64 3) (v1 := .int .i64 0) (v2 := .string ⟨#[98]⟩) (v3 := .int .i64 0) (v4 := .slice (some ⟨u.heap.size, 0, none⟩) 1 1) hat
  have hsz := set5_size (u := u) (X := X) (v0 := .int .i64 3) (v1 := .int .i64 0) (v2 := .string ⟨#[98]⟩) (v3 := .int .i64 0) (v4 := .slice (some ⟨u.heap.size, 0, none⟩) 1 1)
  generalize set5 u X (.int .i64 3) (.int .i64 0) (.string ⟨#[98]⟩) (.int .i64 0) (.slice (some ⟨u.heap.size, 0, none⟩) 1 1) = v at *
  have hb := (Below.refl v.heap.size v).alloc (Nat.le_refl _) (.cells (exV k n o s A a.len c) 26)
  have hR : Blk (v.alloc (.cells (exV k n o s A a.len c) 26)) u.heap.size 26 (exV k n o s A a.len c) := blk_at hsz
  have hat2 := hat1.keep (S' := fun b => PkBlk (v.alloc (.cells (exV k n o s A a.len c) 26)) b ∧ X < b) hb.size fun q hq hl => ⟨⟨hq.1.below hb, hq.2⟩, fun f => hb.cell (p := ⟨q, f, none⟩) hl⟩
  refine ⟨hx1.alloc _, Nat.le_refl _, ?_, ⟨show shB 3 0 ⟨#[98]⟩ 0 1 = true by decide, hs1, hs2, trivial⟩, ⟨by simp only [Exs.height]; omega, by simp only [Exs.size]; omega⟩, ?_⟩
  · exact ⟨u.heap.size, 0, rfl, ⟨hR.pk, hX⟩, hR.lt, hR.cell 0, hR.cell 1, hR.cell 2, hR.cell 3, ⟨A, c, hR.cell 4, hc, hat2⟩, trivial⟩
  · exact ⟨by omega, by omega, by omega, by decide, by simp [Exs.len, maxLen], hwf, trivial⟩
/-- Two arguments: the expression so far, and a number. -/
theorem Tx.bin {X i b : Nat} {u u' : World} {k n o p : Int} {s : ByteArray} {a : Exs} {A : Option Addr} {c : Nat} (h : Tx X i u k n o s a A c) (hi : i < 24) (hp : 1 ≤ p ∧ p ≤ 14) (hb : Below u.heap.size u u') (hub : u.heap.size ≤ b) :
    (Blk u' b 26 (tenV k n o s A a.len c 1 i 0 ⟨#[]⟩ none 0 0) → Tx X (i + 1) (set5 u' X (.int .i64 4) (.int .i64 0) (.string ⟨#[]⟩) (.int .i64 p) (.slice (some ⟨b, 0, none⟩) 2 2)) 4 0 p ⟨#[]⟩ (.cons k n s o a (.cons 1 i ⟨#[]⟩ 0 .nil .nil)) (some ⟨b, 0, none⟩) 2) ∧
    (Blk u' b 26 (tenV 1 i 0 ⟨#[]⟩ none 0 0 k n o s A a.len c) → Tx X (i + 1) (set5 u' X (.int .i64 4) (.int .i64 0) (.string ⟨#[]⟩) (.int .i64 p) (.slice (some ⟨b, 0, none⟩) 2 2)) 4 0 p ⟨#[]⟩ (.cons 1 i ⟨#[]⟩ 0 .nil (.cons k n s o a .nil)) (some ⟨b, 0, none⟩) 2) := by
  have hX := h.1.lt
  obtain ⟨hx, hc, hat, ⟨hs1, hs2⟩, ⟨hh, hz⟩, hwf⟩ := h.below hb
  have hy : shB 1 i ⟨#[]⟩ 0 0 = true := by
    have h1 : sgB i = true := by simp [sgB]; omega
    simp [shB, h1]
    rfl
  have hx4 : shB 4 0 ⟨#[]⟩ p 2 = true := by
    have hc : p = 1 ∨ p = 2 ∨ p = 3 ∨ p = 4 ∨ p = 5 ∨ p = 6 ∨ p = 7 ∨ p = 8 ∨ p = 9 ∨ p = 10 ∨ p = 11 ∨ p = 12 ∨ p = 13 ∨ p = 14 := by omega
    rcases hc with rfl | rfl | rfl | rfl | rfl | rfl | rfl | rfl | rfl | rfl | rfl | rfl | rfl | rfl <;> decide
  have hyw : (Exs.cons 1 (i : Int) ⟨#[]⟩ 0 .nil .nil).Wf := ⟨by omega, by omega, by omega, by decide, by simp [Exs.len, maxLen], trivial, trivial⟩
  obtain ⟨w1, w2, w3, w4, w5, w6, _⟩ := hwf
  obtain ⟨y1, y2, y3, y4, y5, y6, _⟩ := hyw
  have hlen : (Exs.cons k n s o a (.cons 1 i ⟨#[]⟩ 0 .nil .nil)).len ≤ maxLen := by simp [Exs.len, maxLen]
  have hlen2 : (Exs.cons 1 (i : Int) ⟨#[]⟩ 0 .nil (.cons k n s o a .nil)).len ≤ maxLen := by simp [Exs.len, maxLen]
  constructor
  · intro hB
    refine ⟨set5_blk hx, Nat.le_refl _, set5_at ?_, ⟨hx4, hs1, hs2, hy, trivial, trivial⟩, ⟨by simp only [Exs.height]; omega, by simp only [Exs.size]; omega⟩, ?_⟩
    · exact ten_at (a1 := a) (a2 := .nil) hB ⟨hB.pk, by omega⟩ hat hc trivial (Nat.le_refl _)
    · exact ⟨by omega, by omega, by omega, by decide, hlen, ⟨w1, w2, w3, w4, w5, w6, y1, y2, y3, y4, y5, y6, trivial⟩, trivial⟩
  · intro hB
    refine ⟨set5_blk hx, Nat.le_refl _, set5_at ?_, ⟨hx4, hy, trivial, hs1, hs2, trivial⟩, ⟨by simp only [Exs.height]; omega, by simp only [Exs.size]; omega⟩, ?_⟩
    · exact ten_at (a1 := .nil) (a2 := a) hB ⟨hB.pk, by omega⟩ trivial (Nat.le_refl _) hat hc
    · exact ⟨by omega, by omega, by omega, by decide, hlen2, ⟨y1, y2, y3, y4, y5, y6, w1, w2, w3, w4, w5, w6, trivial⟩, trivial⟩
set_option maxHeartbeats 8000000 in
theorem deep_law (v0 : Value) (zs : List Int) (v1 : Value) (ls : List Bool) (w : World) (h0 : IntsIn .u8 w v0 zs) (hl0 : zs.length ≤ maxLen) (hz : ∀ z ∈ zs, (Lit.int .u8 z).wf = true) (h1 : BoolsIn w v1 ls) (hl1 : ls.length ≤ maxLen) (htb : Tab w) :
    Calls Tryd.prog 3 #[v0, v1] w fun e w' => e = .returned (.bool true) ∧ Below w.heap.size w w' := by
  obtain ⟨A0, c0, rfl, hA0⟩ : ∃ A c, v0 = .slice A zs.length c ∧ ∀ i, i < zs.length → ∃ b off, A = some ⟨b, off, none⟩ ∧ b < w.heap.size ∧ w.cell? ⟨b, off + i, none⟩ = some (.int .u8 (zs.getD i 0)) := by
    rcases h0 with ⟨rfl, A, c, rfl⟩ | ⟨b, off, c, _, rfl, hlt, hc⟩
    · exact ⟨A, c, rfl, fun i hi => by simp at hi⟩
    · exact ⟨_, c, rfl, fun i hi => ⟨b, off, rfl, hlt, hc i hi⟩⟩
  obtain ⟨A1, c1, rfl, hA1⟩ : ∃ A c, v1 = .slice A ls.length c ∧ ∀ i, i < ls.length → ∃ b off, A = some ⟨b, off, none⟩ ∧ b < w.heap.size ∧ w.cell? ⟨b, off + i, none⟩ = some (.bool (ls.getD i false)) := by
    rcases h1 with ⟨rfl, A, c, rfl⟩ | ⟨b, off, c, _, rfl, hlt, hc⟩
    · exact ⟨A, c, rfl, fun i hi => by simp at hi⟩
    · exact ⟨_, c, rfl, fun i hi => ⟨b, off, rfl, hlt, hc i hi⟩⟩
  have hzb : ∀ i, i < zs.length → 0 ≤ zs.getD i 0 ∧ zs.getD i 0 ≤ 255 := fun i hi => by
    have := hz (zs.getD i 0) (by simp only [List.getD, List.getElem?_eq_getElem hi, Option.getD_some]; exact List.getElem_mem hi)
    exact bounds_u8 this
  obtain ⟨N, hN⟩ : ∃ N, zs.length = N := ⟨_, rfl⟩
  obtain ⟨M, hM⟩ : ∃ M, ls.length = M := ⟨_, rfl⟩
  rw [hN] at hA0 hzb hl0 ⊢
  rw [hM] at hA1 hl1 ⊢
  have HA0 := Lib.hid hA0
  have HA1 := Lib.hid hA1
  have HZB := Lib.hid hzb
  have HT := Lib.hid (fun (W : World) (hb : Below w.heap.size w W) => tab_below htb hb)
  unfold maxLen at hl0 hl1
  clear h0 h1 hz hA0 hA1 hzb hN hM htb
  go_enter Tryd.func3, Tryd.ntmps3
  go_upto_region 2 with (go_at_call 4; refine (mname_any _ _).mono ?_; rintro e w1 ⟨rfl, hb1⟩)
  have hX := Blk.new w1 26 (exV 2 0 0 ⟨#[97]⟩ none 0 0)
  have hB := hb1.alloc hb1.size (.cells (exV 2 0 0 ⟨#[97]⟩ none 0 0) 26)
  have hwX : w.heap.size ≤ w1.heap.size := hb1.size
  have HTx := Lib.hid (show Tx w1.heap.size 0 (w1.alloc (.cells (exV 2 0 0 ⟨#[97]⟩ none 0 0) 26)) 2 0 0 ⟨#[97]⟩ .nil none 0 from ⟨hX, Nat.le_refl _, trivial, ⟨by decide, trivial⟩, ⟨rfl, by decide⟩, by simp [Exs.Wf, Exs.len, maxLen]; decide⟩)
  have HB := Lib.hid hB
  clear hX hB hb1
  go_wp2
  generalize w1.heap.size = X at *
  go_loopw [6] (fun iv wr => ∃ (i : Nat), i ≤ N ∧ i ≤ 24 ∧ iv = .int .i64 i ∧ Hid (Below w.heap.size w wr ∧ ∃ k n o s a A c, Tx X i wr k n o s a A c)) (fun iv _ => 24 - (intOf iv).toNat)
  case atStart => exact ⟨0, Nat.zero_le _, by omega, rfl, Lib.hid ⟨HB.out, _, _, _, _, _, _, _, HTx.out⟩⟩
  case round =>
    clear HB HTx
    obtain ⟨i, hiN, hi24, rfl, HR⟩ := hrel
    obtain ⟨k, n, o, s, a, A, c, hTx⟩ := HR.out.2
    have HTx := Lib.hid hTx
    have HB := Lib.hid HR.out.1
    clear HR hTx
    by_cases hlt : i < N ∧ i < 24
    · obtain ⟨hlt, hl24⟩ := hlt
      have hlt' : (i : Int) < N := by omega
      have hl24' : (i : Int) < 24 := by omega
      obtain ⟨bo, fo, hAe, hblo, hzc0⟩ := HA0.out i hlt
      subst hAe
      obtain ⟨hz0, hz1⟩ := HZB.out i hlt
      generalize zs.getD i 0 = z at *
      have HZc := Lib.hid (fun (W : World) (hb : Below w.heap.size w W) => (hb.cell (p := ⟨bo, fo + i, none⟩) hblo).trans hzc0)
      clear hzc0
      go_upto_region 7 with (go_at_call 5; refine (mnum_any _ _).mono ?_; rintro e w1 ⟨rfl, hb1⟩)
      have hbY := hb1.alloc hb1.size (.cells (exV 1 i 0 ⟨#[]⟩ none 0 0) 26)
      have HY := Lib.hid (Blk.new w1 26 (exV 1 i 0 ⟨#[]⟩ none 0 0))
      have HTx1 := Lib.hid (HTx.out.below hbY)
      have HB1 := Lib.hid (HB.out.trans (hbY.mono HB.out.size))
      have hYw : wr.heap.size ≤ w1.heap.size := hb1.size
      have hXY : X < w1.heap.size := Nat.lt_of_lt_of_le HTx.out.1.lt hYw
      clear hbY hb1 HTx HB
      generalize w1.alloc (.cells (exV 1 i 0 ⟨#[]⟩ none 0 0) 26) = u at *
      generalize w1.heap.size = Y at *
      have hzc := HZc.out _ HB1.out
      obtain ⟨l, hl⟩ : ∃ l, a.len = l := ⟨_, rfl⟩
      have hXB := HTx1.out.1
      rw [hl] at hXB
      have x0 := hXB.cell 0
      have x1 := hXB.cell 1
      have x2 := hXB.cell 2
      have x3 := hXB.cell 3
      have x4 := hXB.cell 4
      simp only [List.getElem?_toArray, List.getElem?_cons_zero, List.getElem?_cons_succ] at x0 x1 x2 x3 x4
      have hXu := hXB.lt
      have HL := Lib.hid hl
      by_cases h4 : z % 5 = 4
      · have e4 : (z % 5 == 4) = true := by simp [h4]
        have f0 := hXB.frozen 0
        have f1 := hXB.frozen 1
        have f2 := hXB.frozen 2
        have f3 := hXB.frozen 3
        have f4 := hXB.frozen 4
        have hTx2 := HTx1.out.index hl24
        rw [hl] at hTx2
        have HTx2 := Lib.hid hTx2
        clear h4 hXB hl hTx2
        go_wp2
        have hTx2 := HTx2.out
        go_roundw
        case rel => exact ⟨i + 1, by omega, by omega, by go_num, Lib.hid ⟨(set5_below HB1.out hwX).alloc (set5_below HB1.out hwX).size _, _, _, _, _, _, _, _, hTx2⟩⟩
        case measure => simp [intOf]; omega
      · have e4 : (z % 5 == 4) = false := by simp [h4]
        clear h4 hXB hl
        have hYB := HY.out
        have y0 := hYB.cell 0
        have y1 := hYB.cell 1
        have y2 := hYB.cell 2
        have y3 := hYB.cell 3
        have y4 := hYB.cell 4
        simp only [List.getElem?_toArray, List.getElem?_cons_zero, List.getElem?_cons_succ] at y0 y1 y2 y3 y4
        have hYu := hYB.lt
        clear hYB
        have hpz : IntKind.i64.wrap (1 + (IntKind.i64.wrap z).tmod 14) = 1 + z % 14 := by
          rw [IntWalk.i64_in z (by omega), Int.tmod_eq_emod_of_nonneg hz0]
          exact IntWalk.i64_in _ (by omega)
        have hbu : bo < u.heap.size := Nat.lt_of_lt_of_le hblo HB1.out.size
        by_cases hiM : i < M
        · have hiM' : (i : Int) < M := by omega
          obtain ⟨b1, f1, hAe1, hblo1, hlc0⟩ := HA1.out i hiM
          subst hAe1
          have hlc := (HB1.out.cell (p := ⟨b1, f1 + i, none⟩) hblo1).trans hlc0
          clear hlc0
          rcases hq : ls.getD i false with _ | _
          · rw [hq] at hlc
            go_upto_region 6 with fail 
            refine wp_region_last (S := (fun u : World => (u.cell? ⟨X, 0, none⟩ = some (.int .i64 k) ∧ u.cell? ⟨X, 1, none⟩ = some (.int .i64 n) ∧ u.cell? ⟨X, 2, none⟩ = some (.string s) ∧ u.cell? ⟨X, 3, none⟩ = some (.int .i64 o) ∧ u.cell? ⟨X, 4, none⟩ = some (.slice A l c)) ∧ (u.cell? ⟨Y, 0, none⟩ = some (.int .i64 1) ∧ u.cell? ⟨Y, 1, none⟩ = some (.int .i64 i) ∧ u.cell? ⟨Y, 2, none⟩ = some (.string ⟨#[]⟩) ∧ u.cell? ⟨Y, 3, none⟩ = some (.int .i64 0) ∧ u.cell? ⟨Y, 4, none⟩ = some (.slice none 0 0)) ∧ u.cell? ⟨bo, fo + i, none⟩ = some (.int .u8 z))) 10 (by kernel_rfl) ⟨⟨x0, x1, x2, x3, x4⟩, ⟨y0, y1, y2, y3, y4⟩, hzc⟩ (fun hHeld => ?_)
            refine' wpAnyL_take (i := 0) (v := _) ?_ ?_ ?_ ?_ ?_ ?_ ?_ ?_ ?_
            rotate_left 2
            focus (simp only [List.getElem?_toArray, List.getElem?_cons_succ, List.getElem?_cons_zero]; rfl)
            focus kernel_rfl
            focus kernel_rfl
            focus kernel_rfl
            focus kernel_rfl
            focus exact (fun _ _ _ h => h)
            refine Or.inl ⟨?_, ?_⟩
            focus (go_simp; done)
            focus (intro w hSw; obtain ⟨⟨x0, x1, x2, x3, x4⟩, ⟨y0, y1, y2, y3, y4⟩, zz⟩ := hSw; (first | (go_simp; done) | (go_simp; with_reducible rfl)))
            focus assumption
            (try simp only [Act.put, List.setIfInBounds_toArray, List.set_cons_zero, List.set_cons_succ])
            refine' wpAnyL_take (i := 1) (v := _) ?_ ?_ ?_ ?_ ?_ ?_ ?_ ?_ ?_
            rotate_left 2
            focus (simp only [List.getElem?_toArray, List.getElem?_cons_succ, List.getElem?_cons_zero]; rfl)
            focus kernel_rfl
            focus kernel_rfl
            focus kernel_rfl
            focus kernel_rfl
            focus exact (fun _ _ _ h => h)
            refine Or.inl ⟨?_, ?_⟩
            focus (go_simp; done)
            focus (intro w hSw; obtain ⟨⟨x0, x1, x2, x3, x4⟩, ⟨y0, y1, y2, y3, y4⟩, zz⟩ := hSw; (first | (go_simp; done) | (go_simp; with_reducible rfl)))
            focus assumption
            (try simp only [Act.put, List.setIfInBounds_toArray, List.set_cons_zero, List.set_cons_succ])
            refine' wpAnyL_take (i := 2) (v := _) ?_ ?_ ?_ ?_ ?_ ?_ ?_ ?_ ?_
            rotate_left 2
            focus (simp only [List.getElem?_toArray, List.getElem?_cons_succ, List.getElem?_cons_zero]; rfl)
            focus kernel_rfl
            focus kernel_rfl
            focus kernel_rfl
            focus kernel_rfl
            focus exact (fun _ _ _ h => h)
            refine Or.inl ⟨?_, ?_⟩
            focus (go_simp; done)
            focus (intro w hSw; obtain ⟨⟨x0, x1, x2, x3, x4⟩, ⟨y0, y1, y2, y3, y4⟩, zz⟩ := hSw; (first | (go_simp; done) | (go_simp; with_reducible rfl)))
            focus assumption
            (try simp only [Act.put, List.setIfInBounds_toArray, List.set_cons_zero, List.set_cons_succ])
            refine' wpAnyL_take (i := 3) (v := _) ?_ ?_ ?_ ?_ ?_ ?_ ?_ ?_ ?_
            rotate_left 2
            focus (simp only [List.getElem?_toArray, List.getElem?_cons_succ, List.getElem?_cons_zero]; rfl)
            focus kernel_rfl
            focus kernel_rfl
            focus kernel_rfl
            focus kernel_rfl
            focus exact (fun _ _ _ h => h)
            refine Or.inl ⟨?_, ?_⟩
            focus (go_simp; done)
            focus (intro w hSw; obtain ⟨⟨x0, x1, x2, x3, x4⟩, ⟨y0, y1, y2, y3, y4⟩, zz⟩ := hSw; (first | (go_simp; done) | (go_simp; with_reducible rfl)))
            focus assumption
            (try simp only [Act.put, List.setIfInBounds_toArray, List.set_cons_zero, List.set_cons_succ])
            refine' wpAnyL_take (i := 4) (v := _) ?_ ?_ ?_ ?_ ?_ ?_ ?_ ?_ ?_
            rotate_left 2
            focus (simp only [List.getElem?_toArray, List.getElem?_cons_succ, List.getElem?_cons_zero]; rfl)
            focus kernel_rfl
            focus kernel_rfl
            focus kernel_rfl
            focus kernel_rfl
            focus exact (fun _ _ _ h => h)
            refine Or.inl ⟨?_, ?_⟩
            focus (go_simp; done)
            focus (intro w hSw; obtain ⟨⟨x0, x1, x2, x3, x4⟩, ⟨y0, y1, y2, y3, y4⟩, zz⟩ := hSw; (first | (go_simp; done) | (go_simp; with_reducible rfl)))
            focus assumption
            (try simp only [Act.put, List.setIfInBounds_toArray, List.set_cons_zero, List.set_cons_succ])
            refine' wpAnyL_take (i := 5) (v := _) ?_ ?_ ?_ ?_ ?_ ?_ ?_ ?_ ?_
            rotate_left 2
            focus (simp only [List.getElem?_toArray, List.getElem?_cons_succ, List.getElem?_cons_zero]; rfl)
            focus kernel_rfl
            focus kernel_rfl
            focus kernel_rfl
            focus kernel_rfl
            focus exact (fun _ _ _ h => h)
            refine Or.inl ⟨?_, ?_⟩
            focus (go_simp; done)
            focus (intro w hSw; obtain ⟨⟨x0, x1, x2, x3, x4⟩, ⟨y0, y1, y2, y3, y4⟩, zz⟩ := hSw; (first | (go_simp; done) | (go_simp; with_reducible rfl)))
            focus assumption
            (try simp only [Act.put, List.setIfInBounds_toArray, List.set_cons_zero, List.set_cons_succ])
            refine' wpAnyL_take (i := 6) (v := _) ?_ ?_ ?_ ?_ ?_ ?_ ?_ ?_ ?_
            rotate_left 2
            focus (simp only [List.getElem?_toArray, List.getElem?_cons_succ, List.getElem?_cons_zero]; rfl)
            focus kernel_rfl
            focus kernel_rfl
            focus kernel_rfl
            focus kernel_rfl
            focus exact (fun _ _ _ h => h)
            refine Or.inl ⟨?_, ?_⟩
            focus (go_simp; done)
            focus (intro w hSw; obtain ⟨⟨x0, x1, x2, x3, x4⟩, ⟨y0, y1, y2, y3, y4⟩, zz⟩ := hSw; (first | (go_simp; done) | (go_simp; with_reducible rfl)))
            focus assumption
            (try simp only [Act.put, List.setIfInBounds_toArray, List.set_cons_zero, List.set_cons_succ])
            refine' wpAnyL_take (i := 7) (v := _) ?_ ?_ ?_ ?_ ?_ ?_ ?_ ?_ ?_
            rotate_left 2
            focus (simp only [List.getElem?_toArray, List.getElem?_cons_succ, List.getElem?_cons_zero]; rfl)
            focus kernel_rfl
            focus kernel_rfl
            focus kernel_rfl
            focus kernel_rfl
            focus exact (fun _ _ _ h => h)
            refine Or.inl ⟨?_, ?_⟩
            focus (go_simp; done)
            focus (intro w hSw; obtain ⟨⟨x0, x1, x2, x3, x4⟩, ⟨y0, y1, y2, y3, y4⟩, zz⟩ := hSw; (first | (go_simp; done) | (go_simp; with_reducible rfl)))
            focus assumption
            (try simp only [Act.put, List.setIfInBounds_toArray, List.set_cons_zero, List.set_cons_succ])
            refine' wpAnyL_take (i := 8) (v := _) ?_ ?_ ?_ ?_ ?_ ?_ ?_ ?_ ?_
            rotate_left 2
            focus (simp only [List.getElem?_toArray, List.getElem?_cons_succ, List.getElem?_cons_zero]; rfl)
            focus kernel_rfl
            focus kernel_rfl
            focus kernel_rfl
            focus kernel_rfl
            focus exact (fun _ _ _ h => h)
            refine Or.inl ⟨?_, ?_⟩
            focus (go_simp; done)
            focus (intro w hSw; obtain ⟨⟨x0, x1, x2, x3, x4⟩, ⟨y0, y1, y2, y3, y4⟩, zz⟩ := hSw; (first | (go_simp; done) | (go_simp; with_reducible rfl)))
            focus assumption
            (try simp only [Act.put, List.setIfInBounds_toArray, List.set_cons_zero, List.set_cons_succ])
            refine' wpAnyL_one (i := 9) ?_ ?_ ?_ (fun K hK => ?_)
            rotate_left
            focus kernel_rfl
            focus kernel_rfl
            focus (simp only [List.getElem?_toArray, List.getElem?_cons_succ, List.getElem?_cons_zero]; rfl)
            go_simp
            (go_at_call 6; refine (mbin_any (1 + z % 14) 1 i 0 ⟨#[]⟩ none 0 0 k n o s A l c _).mono ?_; rintro e w5 ⟨b5, rfl, hb5, hB5, hw5⟩)
            replace hw5 := undrew hw5
            have hS : (fun u : World => (u.cell? ⟨X, 0, none⟩ = some (.int .i64 k) ∧ u.cell? ⟨X, 1, none⟩ = some (.int .i64 n) ∧ u.cell? ⟨X, 2, none⟩ = some (.string s) ∧ u.cell? ⟨X, 3, none⟩ = some (.int .i64 o) ∧ u.cell? ⟨X, 4, none⟩ = some (.slice A l c)) ∧ (u.cell? ⟨Y, 0, none⟩ = some (.int .i64 1) ∧ u.cell? ⟨Y, 1, none⟩ = some (.int .i64 i) ∧ u.cell? ⟨Y, 2, none⟩ = some (.string ⟨#[]⟩) ∧ u.cell? ⟨Y, 3, none⟩ = some (.int .i64 0) ∧ u.cell? ⟨Y, 4, none⟩ = some (.slice none 0 0)) ∧ u.cell? ⟨bo, fo + i, none⟩ = some (.int .u8 z)) w5 := ⟨⟨(hw5.cell (p := ⟨X, 0, none⟩) hXu).trans x0, (hw5.cell (p := ⟨X, 1, none⟩) hXu).trans x1, (hw5.cell (p := ⟨X, 2, none⟩) hXu).trans x2, (hw5.cell (p := ⟨X, 3, none⟩) hXu).trans x3, (hw5.cell (p := ⟨X, 4, none⟩) hXu).trans x4⟩, ⟨(hw5.cell (p := ⟨Y, 0, none⟩) hYu).trans y0, (hw5.cell (p := ⟨Y, 1, none⟩) hYu).trans y1, (hw5.cell (p := ⟨Y, 2, none⟩) hYu).trans y2, (hw5.cell (p := ⟨Y, 3, none⟩) hYu).trans y3, (hw5.cell (p := ⟨Y, 4, none⟩) hYu).trans y4⟩, (hw5.cell (p := ⟨bo, fo + i, none⟩) hbu).trans hzc⟩
            refine hK.out _ _ hS (fun hHeld => ?_)
            clear hK K hS
            (try simp only [Act.put, List.setIfInBounds_toArray, List.set_cons_zero, List.set_cons_succ])
            refine' wpAnyL_last ?_ ?_ (fun K hK => ?_)
            rotate_left
            focus kernel_rfl
            focus (simp only [List.getElem?_toArray, List.getElem?_cons_succ, List.getElem?_cons_zero]; rfl)
            obtain ⟨⟨x0, x1, x2, x3, x4⟩, _, _⟩ := hHeld
            have hXB := (HTx1.out.1).below hw5 hXu
            have f0 := hXB.frozen 0
            have f1 := hXB.frozen 1
            have f2 := hXB.frozen 2
            have f3 := hXB.frozen 3
            have f4 := hXB.frozen 4
            have hXl := hXB.lt
            go_simp
            refine hK.out _ _ ?_
            clear hK K
            (try simp only [Act.put, List.setIfInBounds_toArray, List.set_cons_zero, List.set_cons_succ])
            refine wpAny_done (by kernel_rfl) ?_ _
            have hB6 := hB5
            rw [← HL.out] at hB6
            have hTx2 := (HTx1.out.bin (p := 1 + z % 14) hl24 (by omega) hw5 hb5).2 hB6
            have HTx2 := Lib.hid hTx2
            have HB5 := Lib.hid (HB1.out.trans (hw5.mono HB1.out.size))
            clear hTx2 hB6 hB5 hw5
            go_wp2
            go_roundw
            case rel => exact ⟨i + 1, by omega, by omega, by go_num, Lib.hid ⟨set5_below HB5.out hwX, _, _, _, _, _, _, _, HTx2.out⟩⟩
            case measure => simp [intOf]; omega
          · rw [hq] at hlc
            go_upto_region 10 with fail 
            refine wp_region_last (S := (fun u : World => (u.cell? ⟨X, 0, none⟩ = some (.int .i64 k) ∧ u.cell? ⟨X, 1, none⟩ = some (.int .i64 n) ∧ u.cell? ⟨X, 2, none⟩ = some (.string s) ∧ u.cell? ⟨X, 3, none⟩ = some (.int .i64 o) ∧ u.cell? ⟨X, 4, none⟩ = some (.slice A l c)) ∧ (u.cell? ⟨Y, 0, none⟩ = some (.int .i64 1) ∧ u.cell? ⟨Y, 1, none⟩ = some (.int .i64 i) ∧ u.cell? ⟨Y, 2, none⟩ = some (.string ⟨#[]⟩) ∧ u.cell? ⟨Y, 3, none⟩ = some (.int .i64 0) ∧ u.cell? ⟨Y, 4, none⟩ = some (.slice none 0 0)) ∧ u.cell? ⟨bo, fo + i, none⟩ = some (.int .u8 z))) 10 (by kernel_rfl) ⟨⟨x0, x1, x2, x3, x4⟩, ⟨y0, y1, y2, y3, y4⟩, hzc⟩ (fun hHeld => ?_)
            refine' wpAnyL_take (i := 0) (v := _) ?_ ?_ ?_ ?_ ?_ ?_ ?_ ?_ ?_
            rotate_left 2
            focus (simp only [List.getElem?_toArray, List.getElem?_cons_succ, List.getElem?_cons_zero]; rfl)
            focus kernel_rfl
            focus kernel_rfl
            focus kernel_rfl
            focus kernel_rfl
            focus exact (fun _ _ _ h => h)
            refine Or.inl ⟨?_, ?_⟩
            focus (go_simp; done)
            focus (intro w hSw; obtain ⟨⟨x0, x1, x2, x3, x4⟩, ⟨y0, y1, y2, y3, y4⟩, zz⟩ := hSw; (first | (go_simp; done) | (go_simp; with_reducible rfl)))
            focus assumption
            (try simp only [Act.put, List.setIfInBounds_toArray, List.set_cons_zero, List.set_cons_succ])
            refine' wpAnyL_take (i := 1) (v := _) ?_ ?_ ?_ ?_ ?_ ?_ ?_ ?_ ?_
            rotate_left 2
            focus (simp only [List.getElem?_toArray, List.getElem?_cons_succ, List.getElem?_cons_zero]; rfl)
            focus kernel_rfl
            focus kernel_rfl
            focus kernel_rfl
            focus kernel_rfl
            focus exact (fun _ _ _ h => h)
            refine Or.inl ⟨?_, ?_⟩
            focus (go_simp; done)
            focus (intro w hSw; obtain ⟨⟨x0, x1, x2, x3, x4⟩, ⟨y0, y1, y2, y3, y4⟩, zz⟩ := hSw; (first | (go_simp; done) | (go_simp; with_reducible rfl)))
            focus assumption
            (try simp only [Act.put, List.setIfInBounds_toArray, List.set_cons_zero, List.set_cons_succ])
            refine' wpAnyL_take (i := 2) (v := _) ?_ ?_ ?_ ?_ ?_ ?_ ?_ ?_ ?_
            rotate_left 2
            focus (simp only [List.getElem?_toArray, List.getElem?_cons_succ, List.getElem?_cons_zero]; rfl)
            focus kernel_rfl
            focus kernel_rfl
            focus kernel_rfl
            focus kernel_rfl
            focus exact (fun _ _ _ h => h)
            refine Or.inl ⟨?_, ?_⟩
            focus (go_simp; done)
            focus (intro w hSw; obtain ⟨⟨x0, x1, x2, x3, x4⟩, ⟨y0, y1, y2, y3, y4⟩, zz⟩ := hSw; (first | (go_simp; done) | (go_simp; with_reducible rfl)))
            focus assumption
            (try simp only [Act.put, List.setIfInBounds_toArray, List.set_cons_zero, List.set_cons_succ])
            refine' wpAnyL_take (i := 3) (v := _) ?_ ?_ ?_ ?_ ?_ ?_ ?_ ?_ ?_
            rotate_left 2
            focus (simp only [List.getElem?_toArray, List.getElem?_cons_succ, List.getElem?_cons_zero]; rfl)
            focus kernel_rfl
            focus kernel_rfl
            focus kernel_rfl
            focus kernel_rfl
            focus exact (fun _ _ _ h => h)
            refine Or.inl ⟨?_, ?_⟩
            focus (go_simp; done)
            focus (intro w hSw; obtain ⟨⟨x0, x1, x2, x3, x4⟩, ⟨y0, y1, y2, y3, y4⟩, zz⟩ := hSw; (first | (go_simp; done) | (go_simp; with_reducible rfl)))
            focus assumption
            (try simp only [Act.put, List.setIfInBounds_toArray, List.set_cons_zero, List.set_cons_succ])
            refine' wpAnyL_take (i := 4) (v := _) ?_ ?_ ?_ ?_ ?_ ?_ ?_ ?_ ?_
            rotate_left 2
            focus (simp only [List.getElem?_toArray, List.getElem?_cons_succ, List.getElem?_cons_zero]; rfl)
            focus kernel_rfl
            focus kernel_rfl
            focus kernel_rfl
            focus kernel_rfl
            focus exact (fun _ _ _ h => h)
            refine Or.inl ⟨?_, ?_⟩
            focus (go_simp; done)
            focus (intro w hSw; obtain ⟨⟨x0, x1, x2, x3, x4⟩, ⟨y0, y1, y2, y3, y4⟩, zz⟩ := hSw; (first | (go_simp; done) | (go_simp; with_reducible rfl)))
            focus assumption
            (try simp only [Act.put, List.setIfInBounds_toArray, List.set_cons_zero, List.set_cons_succ])
            refine' wpAnyL_take (i := 5) (v := _) ?_ ?_ ?_ ?_ ?_ ?_ ?_ ?_ ?_
            rotate_left 2
            focus (simp only [List.getElem?_toArray, List.getElem?_cons_succ, List.getElem?_cons_zero]; rfl)
            focus kernel_rfl
            focus kernel_rfl
            focus kernel_rfl
            focus kernel_rfl
            focus exact (fun _ _ _ h => h)
            refine Or.inl ⟨?_, ?_⟩
            focus (go_simp; done)
            focus (intro w hSw; obtain ⟨⟨x0, x1, x2, x3, x4⟩, ⟨y0, y1, y2, y3, y4⟩, zz⟩ := hSw; (first | (go_simp; done) | (go_simp; with_reducible rfl)))
            focus assumption
            (try simp only [Act.put, List.setIfInBounds_toArray, List.set_cons_zero, List.set_cons_succ])
            refine' wpAnyL_take (i := 6) (v := _) ?_ ?_ ?_ ?_ ?_ ?_ ?_ ?_ ?_
            rotate_left 2
            focus (simp only [List.getElem?_toArray, List.getElem?_cons_succ, List.getElem?_cons_zero]; rfl)
            focus kernel_rfl
            focus kernel_rfl
            focus kernel_rfl
            focus kernel_rfl
            focus exact (fun _ _ _ h => h)
            refine Or.inl ⟨?_, ?_⟩
            focus (go_simp; done)
            focus (intro w hSw; obtain ⟨⟨x0, x1, x2, x3, x4⟩, ⟨y0, y1, y2, y3, y4⟩, zz⟩ := hSw; (first | (go_simp; done) | (go_simp; with_reducible rfl)))
            focus assumption
            (try simp only [Act.put, List.setIfInBounds_toArray, List.set_cons_zero, List.set_cons_succ])
            refine' wpAnyL_take (i := 7) (v := _) ?_ ?_ ?_ ?_ ?_ ?_ ?_ ?_ ?_
            rotate_left 2
            focus (simp only [List.getElem?_toArray, List.getElem?_cons_succ, List.getElem?_cons_zero]; rfl)
            focus kernel_rfl
            focus kernel_rfl
            focus kernel_rfl
            focus kernel_rfl
            focus exact (fun _ _ _ h => h)
            refine Or.inl ⟨?_, ?_⟩
            focus (go_simp; done)
            focus (intro w hSw; obtain ⟨⟨x0, x1, x2, x3, x4⟩, ⟨y0, y1, y2, y3, y4⟩, zz⟩ := hSw; (first | (go_simp; done) | (go_simp; with_reducible rfl)))
            focus assumption
            (try simp only [Act.put, List.setIfInBounds_toArray, List.set_cons_zero, List.set_cons_succ])
            refine' wpAnyL_take (i := 8) (v := _) ?_ ?_ ?_ ?_ ?_ ?_ ?_ ?_ ?_
            rotate_left 2
            focus (simp only [List.getElem?_toArray, List.getElem?_cons_succ, List.getElem?_cons_zero]; rfl)
            focus kernel_rfl
            focus kernel_rfl
            focus kernel_rfl
            focus kernel_rfl
            focus exact (fun _ _ _ h => h)
            refine Or.inl ⟨?_, ?_⟩
            focus (go_simp; done)
            focus (intro w hSw; obtain ⟨⟨x0, x1, x2, x3, x4⟩, ⟨y0, y1, y2, y3, y4⟩, zz⟩ := hSw; (first | (go_simp; done) | (go_simp; with_reducible rfl)))
            focus assumption
            (try simp only [Act.put, List.setIfInBounds_toArray, List.set_cons_zero, List.set_cons_succ])
            refine' wpAnyL_one (i := 9) ?_ ?_ ?_ (fun K hK => ?_)
            rotate_left
            focus kernel_rfl
            focus kernel_rfl
            focus (simp only [List.getElem?_toArray, List.getElem?_cons_succ, List.getElem?_cons_zero]; rfl)
            go_simp
            (go_at_call 6; refine (mbin_any (1 + z % 14) k n o s A l c 1 i 0 ⟨#[]⟩ none 0 0 _).mono ?_; rintro e w5 ⟨b5, rfl, hb5, hB5, hw5⟩)
            replace hw5 := undrew hw5
            have hS : (fun u : World => (u.cell? ⟨X, 0, none⟩ = some (.int .i64 k) ∧ u.cell? ⟨X, 1, none⟩ = some (.int .i64 n) ∧ u.cell? ⟨X, 2, none⟩ = some (.string s) ∧ u.cell? ⟨X, 3, none⟩ = some (.int .i64 o) ∧ u.cell? ⟨X, 4, none⟩ = some (.slice A l c)) ∧ (u.cell? ⟨Y, 0, none⟩ = some (.int .i64 1) ∧ u.cell? ⟨Y, 1, none⟩ = some (.int .i64 i) ∧ u.cell? ⟨Y, 2, none⟩ = some (.string ⟨#[]⟩) ∧ u.cell? ⟨Y, 3, none⟩ = some (.int .i64 0) ∧ u.cell? ⟨Y, 4, none⟩ = some (.slice none 0 0)) ∧ u.cell? ⟨bo, fo + i, none⟩ = some (.int .u8 z)) w5 := ⟨⟨(hw5.cell (p := ⟨X, 0, none⟩) hXu).trans x0, (hw5.cell (p := ⟨X, 1, none⟩) hXu).trans x1, (hw5.cell (p := ⟨X, 2, none⟩) hXu).trans x2, (hw5.cell (p := ⟨X, 3, none⟩) hXu).trans x3, (hw5.cell (p := ⟨X, 4, none⟩) hXu).trans x4⟩, ⟨(hw5.cell (p := ⟨Y, 0, none⟩) hYu).trans y0, (hw5.cell (p := ⟨Y, 1, none⟩) hYu).trans y1, (hw5.cell (p := ⟨Y, 2, none⟩) hYu).trans y2, (hw5.cell (p := ⟨Y, 3, none⟩) hYu).trans y3, (hw5.cell (p := ⟨Y, 4, none⟩) hYu).trans y4⟩, (hw5.cell (p := ⟨bo, fo + i, none⟩) hbu).trans hzc⟩
            refine hK.out _ _ hS (fun hHeld => ?_)
            clear hK K hS
            (try simp only [Act.put, List.setIfInBounds_toArray, List.set_cons_zero, List.set_cons_succ])
            refine' wpAnyL_last ?_ ?_ (fun K hK => ?_)
            rotate_left
            focus kernel_rfl
            focus (simp only [List.getElem?_toArray, List.getElem?_cons_succ, List.getElem?_cons_zero]; rfl)
            obtain ⟨⟨x0, x1, x2, x3, x4⟩, _, _⟩ := hHeld
            have hXB := (HTx1.out.1).below hw5 hXu
            have f0 := hXB.frozen 0
            have f1 := hXB.frozen 1
            have f2 := hXB.frozen 2
            have f3 := hXB.frozen 3
            have f4 := hXB.frozen 4
            have hXl := hXB.lt
            go_simp
            refine hK.out _ _ ?_
            clear hK K
            (try simp only [Act.put, List.setIfInBounds_toArray, List.set_cons_zero, List.set_cons_succ])
            refine wpAny_done (by kernel_rfl) ?_ _
            have hB6 := hB5
            rw [← HL.out] at hB6
            have hTx2 := (HTx1.out.bin (p := 1 + z % 14) hl24 (by omega) hw5 hb5).1 hB6
            have HTx2 := Lib.hid hTx2
            have HB5 := Lib.hid (HB1.out.trans (hw5.mono HB1.out.size))
            clear hTx2 hB6 hB5 hw5
            go_wp2
            go_roundw
            case rel => exact ⟨i + 1, by omega, by omega, by go_num, Lib.hid ⟨set5_below HB5.out hwX, _, _, _, _, _, _, _, HTx2.out⟩⟩
            case measure => simp [intOf]; omega
        · have hiM' : ¬ (i : Int) < M := by omega
          go_upto_region 6 with fail 
          refine wp_region_last (S := (fun u : World => (u.cell? ⟨X, 0, none⟩ = some (.int .i64 k) ∧ u.cell? ⟨X, 1, none⟩ = some (.int .i64 n) ∧ u.cell? ⟨X, 2, none⟩ = some (.string s) ∧ u.cell? ⟨X, 3, none⟩ = some (.int .i64 o) ∧ u.cell? ⟨X, 4, none⟩ = some (.slice A l c)) ∧ (u.cell? ⟨Y, 0, none⟩ = some (.int .i64 1) ∧ u.cell? ⟨Y, 1, none⟩ = some (.int .i64 i) ∧ u.cell? ⟨Y, 2, none⟩ = some (.string ⟨#[]⟩) ∧ u.cell? ⟨Y, 3, none⟩ = some (.int .i64 0) ∧ u.cell? ⟨Y, 4, none⟩ = some (.slice none 0 0)) ∧ u.cell? ⟨bo, fo + i, none⟩ = some (.int .u8 z))) 10 (by kernel_rfl) ⟨⟨x0, x1, x2, x3, x4⟩, ⟨y0, y1, y2, y3, y4⟩, hzc⟩ (fun hHeld => ?_)
          refine' wpAnyL_take (i := 0) (v := _) ?_ ?_ ?_ ?_ ?_ ?_ ?_ ?_ ?_
          rotate_left 2
          focus (simp only [List.getElem?_toArray, List.getElem?_cons_succ, List.getElem?_cons_zero]; rfl)
          focus kernel_rfl
          focus kernel_rfl
          focus kernel_rfl
          focus kernel_rfl
          focus exact (fun _ _ _ h => h)
          refine Or.inl ⟨?_, ?_⟩
          focus (go_simp; done)
          focus (intro w hSw; obtain ⟨⟨x0, x1, x2, x3, x4⟩, ⟨y0, y1, y2, y3, y4⟩, zz⟩ := hSw; (first | (go_simp; done) | (go_simp; with_reducible rfl)))
          focus assumption
          (try simp only [Act.put, List.setIfInBounds_toArray, List.set_cons_zero, List.set_cons_succ])
          refine' wpAnyL_take (i := 1) (v := _) ?_ ?_ ?_ ?_ ?_ ?_ ?_ ?_ ?_
          rotate_left 2
          focus (simp only [List.getElem?_toArray, List.getElem?_cons_succ, List.getElem?_cons_zero]; rfl)
          focus kernel_rfl
          focus kernel_rfl
          focus kernel_rfl
          focus kernel_rfl
          focus exact (fun _ _ _ h => h)
          refine Or.inl ⟨?_, ?_⟩
          focus (go_simp; done)
          focus (intro w hSw; obtain ⟨⟨x0, x1, x2, x3, x4⟩, ⟨y0, y1, y2, y3, y4⟩, zz⟩ := hSw; (first | (go_simp; done) | (go_simp; with_reducible rfl)))
          focus assumption
          (try simp only [Act.put, List.setIfInBounds_toArray, List.set_cons_zero, List.set_cons_succ])
          refine' wpAnyL_take (i := 2) (v := _) ?_ ?_ ?_ ?_ ?_ ?_ ?_ ?_ ?_
          rotate_left 2
          focus (simp only [List.getElem?_toArray, List.getElem?_cons_succ, List.getElem?_cons_zero]; rfl)
          focus kernel_rfl
          focus kernel_rfl
          focus kernel_rfl
          focus kernel_rfl
          focus exact (fun _ _ _ h => h)
          refine Or.inl ⟨?_, ?_⟩
          focus (go_simp; done)
          focus (intro w hSw; obtain ⟨⟨x0, x1, x2, x3, x4⟩, ⟨y0, y1, y2, y3, y4⟩, zz⟩ := hSw; (first | (go_simp; done) | (go_simp; with_reducible rfl)))
          focus assumption
          (try simp only [Act.put, List.setIfInBounds_toArray, List.set_cons_zero, List.set_cons_succ])
          refine' wpAnyL_take (i := 3) (v := _) ?_ ?_ ?_ ?_ ?_ ?_ ?_ ?_ ?_
          rotate_left 2
          focus (simp only [List.getElem?_toArray, List.getElem?_cons_succ, List.getElem?_cons_zero]; rfl)
          focus kernel_rfl
          focus kernel_rfl
          focus kernel_rfl
          focus kernel_rfl
          focus exact (fun _ _ _ h => h)
          refine Or.inl ⟨?_, ?_⟩
          focus (go_simp; done)
          focus (intro w hSw; obtain ⟨⟨x0, x1, x2, x3, x4⟩, ⟨y0, y1, y2, y3, y4⟩, zz⟩ := hSw; (first | (go_simp; done) | (go_simp; with_reducible rfl)))
          focus assumption
          (try simp only [Act.put, List.setIfInBounds_toArray, List.set_cons_zero, List.set_cons_succ])
          refine' wpAnyL_take (i := 4) (v := _) ?_ ?_ ?_ ?_ ?_ ?_ ?_ ?_ ?_
          rotate_left 2
          focus (simp only [List.getElem?_toArray, List.getElem?_cons_succ, List.getElem?_cons_zero]; rfl)
          focus kernel_rfl
          focus kernel_rfl
          focus kernel_rfl
          focus kernel_rfl
          focus exact (fun _ _ _ h => h)
          refine Or.inl ⟨?_, ?_⟩
          focus (go_simp; done)
          focus (intro w hSw; obtain ⟨⟨x0, x1, x2, x3, x4⟩, ⟨y0, y1, y2, y3, y4⟩, zz⟩ := hSw; (first | (go_simp; done) | (go_simp; with_reducible rfl)))
          focus assumption
          (try simp only [Act.put, List.setIfInBounds_toArray, List.set_cons_zero, List.set_cons_succ])
          refine' wpAnyL_take (i := 5) (v := _) ?_ ?_ ?_ ?_ ?_ ?_ ?_ ?_ ?_
          rotate_left 2
          focus (simp only [List.getElem?_toArray, List.getElem?_cons_succ, List.getElem?_cons_zero]; rfl)
          focus kernel_rfl
          focus kernel_rfl
          focus kernel_rfl
          focus kernel_rfl
          focus exact (fun _ _ _ h => h)
          refine Or.inl ⟨?_, ?_⟩
          focus (go_simp; done)
          focus (intro w hSw; obtain ⟨⟨x0, x1, x2, x3, x4⟩, ⟨y0, y1, y2, y3, y4⟩, zz⟩ := hSw; (first | (go_simp; done) | (go_simp; with_reducible rfl)))
          focus assumption
          (try simp only [Act.put, List.setIfInBounds_toArray, List.set_cons_zero, List.set_cons_succ])
          refine' wpAnyL_take (i := 6) (v := _) ?_ ?_ ?_ ?_ ?_ ?_ ?_ ?_ ?_
          rotate_left 2
          focus (simp only [List.getElem?_toArray, List.getElem?_cons_succ, List.getElem?_cons_zero]; rfl)
          focus kernel_rfl
          focus kernel_rfl
          focus kernel_rfl
          focus kernel_rfl
          focus exact (fun _ _ _ h => h)
          refine Or.inl ⟨?_, ?_⟩
          focus (go_simp; done)
          focus (intro w hSw; obtain ⟨⟨x0, x1, x2, x3, x4⟩, ⟨y0, y1, y2, y3, y4⟩, zz⟩ := hSw; (first | (go_simp; done) | (go_simp; with_reducible rfl)))
          focus assumption
          (try simp only [Act.put, List.setIfInBounds_toArray, List.set_cons_zero, List.set_cons_succ])
          refine' wpAnyL_take (i := 7) (v := _) ?_ ?_ ?_ ?_ ?_ ?_ ?_ ?_ ?_
          rotate_left 2
          focus (simp only [List.getElem?_toArray, List.getElem?_cons_succ, List.getElem?_cons_zero]; rfl)
          focus kernel_rfl
          focus kernel_rfl
          focus kernel_rfl
          focus kernel_rfl
          focus exact (fun _ _ _ h => h)
          refine Or.inl ⟨?_, ?_⟩
          focus (go_simp; done)
          focus (intro w hSw; obtain ⟨⟨x0, x1, x2, x3, x4⟩, ⟨y0, y1, y2, y3, y4⟩, zz⟩ := hSw; (first | (go_simp; done) | (go_simp; with_reducible rfl)))
          focus assumption
          (try simp only [Act.put, List.setIfInBounds_toArray, List.set_cons_zero, List.set_cons_succ])
          refine' wpAnyL_take (i := 8) (v := _) ?_ ?_ ?_ ?_ ?_ ?_ ?_ ?_ ?_
          rotate_left 2
          focus (simp only [List.getElem?_toArray, List.getElem?_cons_succ, List.getElem?_cons_zero]; rfl)
          focus kernel_rfl
          focus kernel_rfl
          focus kernel_rfl
          focus kernel_rfl
          focus exact (fun _ _ _ h => h)
          refine Or.inl ⟨?_, ?_⟩
          focus (go_simp; done)
          focus (intro w hSw; obtain ⟨⟨x0, x1, x2, x3, x4⟩, ⟨y0, y1, y2, y3, y4⟩, zz⟩ := hSw; (first | (go_simp; done) | (go_simp; with_reducible rfl)))
          focus assumption
          (try simp only [Act.put, List.setIfInBounds_toArray, List.set_cons_zero, List.set_cons_succ])
          refine' wpAnyL_one (i := 9) ?_ ?_ ?_ (fun K hK => ?_)
          rotate_left
          focus kernel_rfl
          focus kernel_rfl
          focus (simp only [List.getElem?_toArray, List.getElem?_cons_succ, List.getElem?_cons_zero]; rfl)
          go_simp
          (go_at_call 6; refine (mbin_any (1 + z % 14) 1 i 0 ⟨#[]⟩ none 0 0 k n o s A l c _).mono ?_; rintro e w5 ⟨b5, rfl, hb5, hB5, hw5⟩)
          replace hw5 := undrew hw5
          have hS : (fun u : World => (u.cell? ⟨X, 0, none⟩ = some (.int .i64 k) ∧ u.cell? ⟨X, 1, none⟩ = some (.int .i64 n) ∧ u.cell? ⟨X, 2, none⟩ = some (.string s) ∧ u.cell? ⟨X, 3, none⟩ = some (.int .i64 o) ∧ u.cell? ⟨X, 4, none⟩ = some (.slice A l c)) ∧ (u.cell? ⟨Y, 0, none⟩ = some (.int .i64 1) ∧ u.cell? ⟨Y, 1, none⟩ = some (.int .i64 i) ∧ u.cell? ⟨Y, 2, none⟩ = some (.string ⟨#[]⟩) ∧ u.cell? ⟨Y, 3, none⟩ = some (.int .i64 0) ∧ u.cell? ⟨Y, 4, none⟩ = some (.slice none 0 0)) ∧ u.cell? ⟨bo, fo + i, none⟩ = some (.int .u8 z)) w5 := ⟨⟨(hw5.cell (p := ⟨X, 0, none⟩) hXu).trans x0, (hw5.cell (p := ⟨X, 1, none⟩) hXu).trans x1, (hw5.cell (p := ⟨X, 2, none⟩) hXu).trans x2, (hw5.cell (p := ⟨X, 3, none⟩) hXu).trans x3, (hw5.cell (p := ⟨X, 4, none⟩) hXu).trans x4⟩, ⟨(hw5.cell (p := ⟨Y, 0, none⟩) hYu).trans y0, (hw5.cell (p := ⟨Y, 1, none⟩) hYu).trans y1, (hw5.cell (p := ⟨Y, 2, none⟩) hYu).trans y2, (hw5.cell (p := ⟨Y, 3, none⟩) hYu).trans y3, (hw5.cell (p := ⟨Y, 4, none⟩) hYu).trans y4⟩, (hw5.cell (p := ⟨bo, fo + i, none⟩) hbu).trans hzc⟩
          refine hK.out _ _ hS (fun hHeld => ?_)
          clear hK K hS
          (try simp only [Act.put, List.setIfInBounds_toArray, List.set_cons_zero, List.set_cons_succ])
          refine' wpAnyL_last ?_ ?_ (fun K hK => ?_)
          rotate_left
          focus kernel_rfl
          focus (simp only [List.getElem?_toArray, List.getElem?_cons_succ, List.getElem?_cons_zero]; rfl)
          obtain ⟨⟨x0, x1, x2, x3, x4⟩, _, _⟩ := hHeld
          have hXB := (HTx1.out.1).below hw5 hXu
          have f0 := hXB.frozen 0
          have f1 := hXB.frozen 1
          have f2 := hXB.frozen 2
          have f3 := hXB.frozen 3
          have f4 := hXB.frozen 4
          have hXl := hXB.lt
          go_simp
          refine hK.out _ _ ?_
          clear hK K
          (try simp only [Act.put, List.setIfInBounds_toArray, List.set_cons_zero, List.set_cons_succ])
          refine wpAny_done (by kernel_rfl) ?_ _
          have hB6 := hB5
          rw [← HL.out] at hB6
          have hTx2 := (HTx1.out.bin (p := 1 + z % 14) hl24 (by omega) hw5 hb5).2 hB6
          have HTx2 := Lib.hid hTx2
          have HB5 := Lib.hid (HB1.out.trans (hw5.mono HB1.out.size))
          clear hTx2 hB6 hB5 hw5
          go_wp2
          go_roundw
          case rel => exact ⟨i + 1, by omega, by omega, by go_num, Lib.hid ⟨set5_below HB5.out hwX, _, _, _, _, _, _, _, HTx2.out⟩⟩
          case measure => simp [intOf]; omega
    · have hlt' : ¬ ((i : Int) < N ∧ (i : Int) < 24) := fun h => hlt (by omega)
      have HMn := Lib.hid (fun (W : World) => run_min2 N 24 W)
      have hmin : min (N : Int) 24 = i := by omega
      rw [hmin] at HMn
      obtain ⟨hXB, hc, hat, hsh, ⟨hh, hsz⟩, hwf⟩ := HTx.out
      have hP := pexpr_any a A c k n o s wr hsh (hat.keep (Nat.le_refl _) fun q hq hl => ⟨hq.1, fun f => rfl⟩) hc hwf (by omega) (HT.out _ HB.out)
      have HQ := Lib.hid (fun (W : World) (hb : Below wr.heap.size wr W) => rexpr_any a A c k n o s _ W hsh (hat.keep (S' := fun b => PkBlk wr b ∧ X < b) hb.size fun q hq hl => ⟨hq, fun f => hb.cell (p := ⟨q, f, none⟩) hl⟩) hwf)
      obtain ⟨l, hl⟩ : ∃ l, a.len = l := ⟨_, rfl⟩
      have HAw := Lib.hid (fun (W : World) (hb : Below w.heap.size w W) => awake_any W (HT.out W hb))
      rw [hl] at hP HQ hXB
      have HXB := Lib.hid hXB
      have x0 := hXB.cell 0
      have x1 := hXB.cell 1
      have x2 := hXB.cell 2
      have x3 := hXB.cell 3
      have x4 := hXB.cell 4
      simp only [List.getElem?_toArray, List.getElem?_cons_zero, List.getElem?_cons_succ] at x0 x1 x2 x3 x4
      obtain ⟨tx, er, hPe, hQe, her⟩ : ∃ (tx : ByteArray) (er : Int), (if a.height ≤ 7 then eTx k n s o a.txs else ⟨#[]⟩) = tx ∧ (if a.height ≤ 7 then (0 : Int) else 4) = er ∧ (er == 4) = decide (8 ≤ (i : Int)) := by
        refine ⟨_, _, rfl, rfl, ?_⟩
        by_cases h7 : a.height ≤ 7
        · rw [if_pos h7]; simp; omega
        · rw [if_neg h7]; simp; omega
      rw [hPe, hQe] at hP HQ
      have HP := Lib.hid hP
      clear hXB hc hat hsh hh hsz hwf HTx hl hPe hQe hP hmin HT HA0 HA1 HZB
      have hgo : ∀ q1 q2 : Bool, (decide ((i : Int) < N)) = q1 → (decide ((i : Int) < 24)) = q2 → (q1 && q2) = false := fun q1 q2 h1 h2 => by
        subst h1 h2
        simp
        omega
      by_cases hiN' : (i : Int) < N
      · have hi24' : ¬ (i : Int) < 24 := fun h => hlt' ⟨hiN', h⟩
        clear hlt hlt' hgo
        go_wp2_with (first
          | (go_at_call 7; refine HP.out.mono ?_; rintro e w6 ⟨rfl, hb6⟩; have hXC := HXB.out.below hb6 HXB.out.lt; have y0 := hXC.cell 0; have y1 := hXC.cell 1; have y2 := hXC.cell 2; have y3 := hXC.cell 3; have y4 := hXC.cell 4; have HB6 := Lib.hid hb6; clear hb6 hXC)
          | (go_at_call 8; refine (HQ.out _ HB6.out).mono ?_; rintro e w7 ⟨rfl, hb7⟩; have HB7 := Lib.hid (HB.out.trans ((HB6.out.trans (hb7.mono HB6.out.size)).mono HB.out.size)); clear hb7)
          | (go_at_call 9; refine (HAw.out _ HB7.out).mono ?_; rintro e w8 ⟨rfl, hb8⟩; have HB8 := Lib.hid (HB7.out.trans (hb8.mono HB7.out.size)); clear hb8))
        go_ret
        exact ⟨rfl, HB8.out⟩
      · clear hlt hlt' hgo
        go_wp2_with (first
          | (go_at_call 7; refine HP.out.mono ?_; rintro e w6 ⟨rfl, hb6⟩; have hXC := HXB.out.below hb6 HXB.out.lt; have y0 := hXC.cell 0; have y1 := hXC.cell 1; have y2 := hXC.cell 2; have y3 := hXC.cell 3; have y4 := hXC.cell 4; have HB6 := Lib.hid hb6; clear hb6 hXC)
          | (go_at_call 8; refine (HQ.out _ HB6.out).mono ?_; rintro e w7 ⟨rfl, hb7⟩; have HB7 := Lib.hid (HB.out.trans ((HB6.out.trans (hb7.mono HB6.out.size)).mono HB.out.size)); clear hb7)
          | (go_at_call 9; refine (HAw.out _ HB7.out).mono ?_; rintro e w8 ⟨rfl, hb8⟩; have HB8 := Lib.hid (HB7.out.trans (hb8.mono HB7.out.size)); clear hb8))
        go_ret
        exact ⟨rfl, HB8.out⟩
end Go.Proofs.YtaabhlkhddkglaaDoor
