/- Two readings of one outcome are the same. No condition. The laws' graph in memory, and what a run of it wants. No condition. What the laws of operations call, on their graph. No condition. FoldOps' walk. No condition. -/
import Derived.Test.YtojflhkmonicoaaGreatGrSame
import Derived.Test.YtojflhkmonicoaaGreatFoLawQ
import Derived.Test.YtojflhkmonicoaaGreatFoLaw
import Derived.Test.YtojflhkmonicoaaGreatTrRun
namespace Go.Proofs.YtojflhkmonicoaaGreat
open Go.RowKit
set_option linter.unusedVariables false
set_option linter.unusedSimpArgs false
attribute [local go_sem] y_undef
/-- Two outcomes, boxed. -/
def Oc2 (w : World) (ga gb : Array Value) (u : World) : Prop := Below w.heap.size w u ∧ Bk u w.heap.size 47 ga ∧ Bk u (w.heap.size + 1) 47 gb
theorem Oc2.below {w u u' : World} {ga gb : Array Value} (h : Oc2 w ga gb u) (hb : Below u.heap.size u u') : Oc2 w ga gb u' := ⟨blt h.1 hb, h.2.1.below hb, h.2.2.below hb⟩
theorem oc2_new (w : World) (ga gb : Array Value) : Oc2 w ga gb ((w.alloc (.cells ga 47)).alloc (.cells gb 47)) := by
  have h1 := Bk.new w 47 ga
  have h2 := Bk.new (w.alloc (.cells ga 47)) 47 gb
  rw [size_alloc] at h2
  exact ⟨bla (bla (Below.refl _ _) _) _, h1.below (bla (Below.refl _ _) _), h2⟩
theorem oc2c {w u : World} {x0 x1 x2 x3 x4 y0 y1 y2 y3 y4 : Value} (h : Oc2 w #[x0, x1, x2, x3, x4] #[y0, y1, y2, y3, y4] u) : u.cell? ⟨w.heap.size, 0, none⟩ = some x0 ∧ u.cell? ⟨w.heap.size, 1, none⟩ = some x1 ∧ u.cell? ⟨w.heap.size, 2, none⟩ = some x2 ∧ u.cell? ⟨w.heap.size, 3, none⟩ = some x3 ∧ u.cell? ⟨w.heap.size, 4, none⟩ = some x4 ∧ u.cell? ⟨w.heap.size + 1, 0, none⟩ = some y0 ∧ u.cell? ⟨w.heap.size + 1, 1, none⟩ = some y1 ∧ u.cell? ⟨w.heap.size + 1, 2, none⟩ = some y2 ∧ u.cell? ⟨w.heap.size + 1, 3, none⟩ = some y3 ∧ u.cell? ⟨w.heap.size + 1, 4, none⟩ = some y4 :=
  ⟨h.2.1.cell 0, h.2.1.cell 1, h.2.1.cell 2, h.2.1.cell 3, h.2.1.cell 4, h.2.2.cell 0, h.2.2.cell 1, h.2.2.cell 2, h.2.2.cell 3, h.2.2.cell 4⟩
set_option maxHeartbeats 4000000 in
theorem rsend_any (vs cn : List Int) (ar sh : List (List Int)) (n : Int) (v1 v2 v3 v4 u1 u2 u3 u4 : Value) (w : World) (h1 : NumsIn w v1 vs) (h2 : LstsIn w v2 ar) (h3 : LstsIn w v3 sh) (k1 : NumsIn w u1 vs) (k2 : LstsIn w u2 ar) (k3 : LstsIn w u3 sh)
    (hl : vs.length ≤ maxLen) (ha : ar.length ≤ maxLen ∧ ∀ q ∈ ar, q.length ≤ maxLen) (hs : sh.length ≤ maxLen ∧ ∀ q ∈ sh, q.length ≤ maxLen) :
    Calls Tryz.prog 26 #[.agg #[v1, v2, v3, v4, .int .i64 n], .agg #[u1, u2, u3, u4, .int .i64 n]] w fun e w' => e = .returned (.bool true) ∧ Below w.heap.size w w' := by
  have H1 := Lib.hid fun (W : World) (hW : Below w.heap.size w W) => sameints_any vs v1 u1 W (h1.below hW) (k1.below hW) hl
  have H2 := Lib.hid fun (W : World) (hW : Below w.heap.size w W) => samelists_any ar v2 u2 W (h2.below hW) (k2.below hW) ha.1 ha.2
  have H3 := Lib.hid fun (W : World) (hW : Below w.heap.size w W) => samelists_any sh v3 u3 W (h3.below hW) (k3.below hW) hs.1 hs.2
  have HT := Lib.hid (oc2_new w #[v1, v2, v3, v4, .int .i64 n] #[u1, u2, u3, u4, .int .i64 n])
  clear h1 h2 h3 k1 k2 k3 hl ha hs
  go_enter Tryz.func26, Tryz.ntmps26
  obtain ⟨x0, x1, x2, x3, x4, y0, y1, y2, y3, y4⟩ := oc2c HT.out
  go_wp2_with fail
  refine (H1.out _ HT.out.1).mono ?_
  rintro e w1 ⟨rfl, hb1⟩
  have HT1 := Lib.hid (HT.out.below hb1)
  clear hb1 H1 HT x0 x1 x2 x3 x4 y0 y1 y2 y3 y4
  obtain ⟨x0, x1, x2, x3, x4, y0, y1, y2, y3, y4⟩ := oc2c HT1.out
  go_wp2_with fail
  refine (H2.out _ HT1.out.1).mono ?_
  rintro e w2 ⟨rfl, hb2⟩
  have HT2 := Lib.hid (HT1.out.below hb2)
  clear hb2 H2 HT1 x0 x1 x2 x3 x4 y0 y1 y2 y3 y4
  obtain ⟨x0, x1, x2, x3, x4, y0, y1, y2, y3, y4⟩ := oc2c HT2.out
  go_wp2_with fail
  refine (H3.out _ HT2.out.1).mono ?_
  rintro e w3 ⟨rfl, hb3⟩
  have HT3 := Lib.hid (HT2.out.below hb3)
  clear hb3 H3 HT2 x0 x1 x2 x3 x4 y0 y1 y2 y3 y4
  go_wp2
  go_ret
  exact ⟨rfl, HT3.out.1⟩
set_option maxHeartbeats 4000000 in
theorem rsame_any (vs cn : List Int) (ar sh : List (List Int)) (n : Int) (v1 v2 v3 v4 u1 u2 u3 u4 : Value) (w : World) (h1 : NumsIn w v1 vs) (h2 : LstsIn w v2 ar) (h3 : LstsIn w v3 sh) (h4 : NumsIn w v4 cn) (k1 : NumsIn w u1 vs) (k2 : LstsIn w u2 ar) (k3 : LstsIn w u3 sh) (k4 : NumsIn w u4 cn)
    (hl : vs.length ≤ maxLen) (hc : cn.length ≤ maxLen) (ha : ar.length ≤ maxLen ∧ ∀ q ∈ ar, q.length ≤ maxLen) (hs : sh.length ≤ maxLen ∧ ∀ q ∈ sh, q.length ≤ maxLen) :
    Calls Tryz.prog 11 #[.agg #[v1, v2, v3, v4, .int .i64 n], .agg #[u1, u2, u3, u4, .int .i64 n]] w fun e w' => e = .returned (.bool true) ∧ Below w.heap.size w w' := by
  have H1 := Lib.hid fun (W : World) (hW : Below w.heap.size w W) => rsend_any vs cn ar sh n v1 v2 v3 v4 u1 u2 u3 u4 W (h1.below hW) (h2.below hW) (h3.below hW) (k1.below hW) (k2.below hW) (k3.below hW) hl ha hs
  have H2 := Lib.hid fun (W : World) (hW : Below w.heap.size w W) => sameints_any cn v4 u4 W (h4.below hW) (k4.below hW) hc
  have HT := Lib.hid (oc2_new w #[v1, v2, v3, v4, .int .i64 n] #[u1, u2, u3, u4, .int .i64 n])
  clear h1 h2 h3 h4 k1 k2 k3 k4 hl ha hs hc
  go_enter Tryz.func11, Tryz.ntmps11
  obtain ⟨x0, x1, x2, x3, x4, y0, y1, y2, y3, y4⟩ := oc2c HT.out
  go_wp2_with fail
  refine (H1.out _ HT.out.1).mono ?_
  rintro e w1 ⟨rfl, hb1⟩
  have HT1 := Lib.hid (HT.out.below hb1)
  clear hb1 H1 HT x0 x1 x2 x3 x4 y0 y1 y2 y3 y4
  obtain ⟨x0, x1, x2, x3, x4, y0, y1, y2, y3, y4⟩ := oc2c HT1.out
  go_wp2_with fail
  refine (H2.out _ HT1.out.1).mono ?_
  rintro e w2 ⟨rfl, hb2⟩
  have HT2 := Lib.hid (HT1.out.below hb2)
  clear hb2 H2 HT1 x0 x1 x2 x3 x4 y0 y1 y2 y3 y4
  go_wp2
  go_ret
  exact ⟨rfl, HT2.out.1⟩
end Go.Proofs.YtojflhkmonicoaaGreat
namespace Go.Proofs.YtojflhkmonicoaaGreat
open Go.RowKit
set_option linter.unusedVariables false
set_option linter.unusedSimpArgs false
theorem row_bk {sz : Nat} {u : World} {g n c : Nat} {t : TypeId} {cs : Array Value} {xs : List Value} (h : Bk u g t cs) (hx : cs = xs.toArray) (hn : xs.length = n * sz) : RowIn sz u (.slice (some ⟨g, 0, none⟩) n c) n xs :=
  ⟨_, _, rfl, hn, .inr ⟨g, 0, rfl, h.lt, fun j u hu => by rw [Nat.zero_add, h.cell, hx]; simpa using hu⟩⟩
def fgX : ByteArray := ⟨#[120]⟩
def fgY : ByteArray := ⟨#[121]⟩
def fgA : ByteArray := ⟨#[97]⟩
theorem lawg_in {u : World} {O : List Gr.Op} {c : Int} {A : Option Addr} {C gi ga gB gC gD gE : Nat} {t1 t2 t3 t4 t5 t6 : TypeId}
    (h1 : Bk u gi t1 #[.string ⟨#[120]⟩, .int .i64 (-2147483648), .int .i64 2147483647, .string ⟨#[121]⟩, .int .i64 (-2147483648), .int .i64 2147483647]) (h2 : Bk u ga t2 #[.string ⟨#[97]⟩, .int .i64 4])
    (h3 : OpsIn u (.slice A O.length C) O) (h4 : Bk u gB t3 #[.int .i64 1, .int .i64 2]) (h5 : Bk u gC t4 #[.int .i64 1, .int .i64 4, .int .i64 0, .int .i64 0, .int .i64 77]) (h6 : Bk u gD t5 #[.int .i64 2])
    (h7 : Bk u gE t6 #[.slice A O.length C, .int .i64 c, .slice (some ⟨gB, 0, none⟩) 2 2, .slice (some ⟨gC, 0, none⟩) 1 1, .int .i64 0, .slice (some ⟨gD, 0, none⟩) 1 1, .slice none 0 0, .int .i64 0, .slice none 0 0]) :
    GrIn u (Fo.lawG fgX fgY fgA O c) (.slice (some ⟨gi, 0, none⟩) 2 2) (.slice (some ⟨ga, 0, none⟩) 1 1) (.slice (some ⟨gE, 0, none⟩) 3 3) (.slice none 0 0) (.slice none 0 0) := by
  refine ⟨row_bk h1 rfl rfl, row_bk h2 rfl rfl, ?_, ⟨none, 0, rfl, fun i hi => absurd hi (Nat.not_lt_zero _)⟩, RowIn.nil _ _⟩
  refine ⟨_, 3, fun i => if i = 0 then A else if i = 1 then some ⟨gC, 0, none⟩ else none, fun i => if i = 0 then some ⟨gB, 0, none⟩ else if i = 1 then some ⟨gD, 0, none⟩ else none, fun i => if i = 0 then C else if i = 1 then 1 else 0, fun i => if i = 0 then 2 else if i = 1 then 1 else 0, rfl, fun i hi => ?_⟩
  have hi3 : i = 0 ∨ i = 1 ∨ i = 2 := by have : i < 3 := hi; omega
  rcases hi3 with rfl | rfl | rfl
  · exact ⟨gE, 0, rfl, h7.lt, h7.cell 0, h7.cell 1, h7.cell 2, h3, row_bk h4 rfl rfl⟩
  · exact ⟨gE, 0, rfl, h7.lt, h7.cell 3, h7.cell 4, h7.cell 5, row_bk h5 rfl rfl, row_bk h6 rfl rfl⟩
  · exact ⟨gE, 0, rfl, h7.lt, h7.cell 6, h7.cell 7, h7.cell 8, RowIn.nil _ _, RowIn.nil _ _⟩
theorem pts_nil {u : World} {v : Value} (h : LstsIn u v []) : PtsIn u v [] := by
  obtain ⟨A, c, e, -⟩ := h
  exact ⟨A, c, fun _ => none, fun _ => 0, e, fun i hi => absurd hi (Nat.not_lt_zero _)⟩
/-- What Run wants of a graph like the laws'. -/
structure Rn5 (g : Gr.G) : Prop where
  chk : Gr.chk g = 0
  fit : Gr.Fit g
  vars : g.vars = 5
  keep : g.keep = 5
  sh : g.sh = 0
  ars : g.ars = [(fgA, 4)]
  pts : g.pts = []
  blks : g.blks.length = 3
  ops : ∀ k, k < g.blks.length → (Tr.blk g k).ops.length ≤ 1000 ∧ ∀ j, j < (Tr.blk g k).ops.length → Tr.Ok 5 1 ((Tr.blk g k).ops.getD j Gr.op0)
  nx : ∀ k, k < g.blks.length → ((Tr.blk g k).next.length = 2 → 0 ≤ (Tr.blk g k).cond ∧ (Tr.blk g k).cond < 5) ∧ ∀ j, j < (Tr.blk g k).next.length → 0 ≤ (Tr.blk g k).next.getD j 0
theorem fit_of {g : Gr.G} (h0 : Gr.chk g = 0) (hb : ∀ b ∈ g.blks, b.ops.length ≤ 1000 ∧ b.next.length ≤ 2) (hv : g.vars = 5) : Gr.Fit g := by
  have ho := Fo.okg_of h0
  refine ⟨by have := ho.ins; omega, by have := ho.ars; omega, by have := ho.blks; omega, by have := ho.pts; omega, by have := ho.hds; omega, fun b hb' => ?_, fun q hq => ?_, by omega⟩
  · have := hb b hb'; omega
  · obtain ⟨k, hk, rfl⟩ := List.getElem_of_mem hq
    have := ho.pt k hk
    rw [show g.pts.getD k [] = g.pts[k] by simp [List.getD, List.getElem?_eq_getElem hk]] at this
    omega
theorem lawg_rn {O : List Gr.Op} {c : Int} (hl : ∀ k, k < O.length → Fo.Nice 5 1 (O.getD k Gr.op0)) (hn : O.length ≤ 30) (hc : 0 ≤ c ∧ c < 5) : Rn5 (Fo.lawG fgX fgY fgA O c) := by
  have h0 := Fo.lawG_chk fgX fgY fgA hl hn hc
  refine ⟨h0, fit_of h0 (fun b hb => ?_) rfl, rfl, rfl, rfl, rfl, rfl, rfl, fun k hk => ?_, fun k hk => ?_⟩
  · have hb' : b ∈ [(⟨O, c, [1, 2]⟩ : Gr.Blk), ⟨[Fo.op77], 0, [2]⟩, ⟨[], 0, []⟩] := hb
    simp at hb'
    rcases hb' with rfl | rfl | rfl <;> simp <;> omega
  · have hk3 : k = 0 ∨ k = 1 ∨ k = 2 := by have : k < 3 := hk; omega
    rcases hk3 with rfl | rfl | rfl
    · exact ⟨by show O.length ≤ 1000; omega, fun j hj => (hl j hj).ok⟩
    · refine ⟨by show 1 ≤ 1000; omega, fun j hj => ?_⟩
      have hj0 : j = 0 := by have : j < 1 := hj; omega
      subst hj0
      exact (show Fo.Nice 5 1 Fo.op77 by unfold Fo.Nice Fo.op77; simp [Gr.opOk, Fo.inn_is, Fo.isW_is, Fo.zer_is, Tr.isWd]).ok
    · exact ⟨Nat.zero_le _, fun j hj => absurd hj (Nat.not_lt_zero _)⟩
  · have hk3 : k = 0 ∨ k = 1 ∨ k = 2 := by have : k < 3 := hk; omega
    rcases hk3 with rfl | rfl | rfl
    · refine ⟨fun _ => hc, fun j hj => ?_⟩
      have hj2 : j = 0 ∨ j = 1 := by have : j < 2 := hj; omega
      rcases hj2 with rfl | rfl
      · show (0 : Int) ≤ 1; omega
      · show (0 : Int) ≤ 2; omega
    · refine ⟨fun h => absurd (show (1 : Nat) = 2 from h) (by decide), fun j hj => ?_⟩
      have hj0 : j = 0 := by have : j < 1 := hj; omega
      subst hj0
      show (0 : Int) ≤ 2; omega
    · exact ⟨fun h => absurd (show (0 : Nat) = 2 from h) (by decide), fun j hj => absurd hj (Nat.not_lt_zero _)⟩
theorem blk_keep {V : Nat} {s t} (b : Gr.Blk) (hs : Fo.Sees V (Fo.runs b.ops b.ops.length) t) (h : (b.next.length = 2 → 0 ≤ b.cond ∧ b.cond < V) ∧ ∀ j, j < b.next.length → 0 ≤ b.next.getD j 0) (hz : s = t) :
    ((Fo.blk b).next.length = 2 → 0 ≤ (Fo.blk b).cond ∧ (Fo.blk b).cond < V) ∧ ∀ j, j < (Fo.blk b).next.length → 0 ≤ (Fo.blk b).next.getD j 0 := by
  unfold Fo.blk
  simp only
  split
  · rename_i h2
    have hu := hs.use (h.1 h2).1 (h.1 h2).2
    split
    · rename_i n _
      refine ⟨fun e => absurd e (by simp), fun j hj => ?_⟩
      have hj0 : j = 0 := by simp at hj; omega
      subst hj0
      show (0 : Int) ≤ if n = 0 then b.next.getD 1 0 else b.next.getD 0 0
      split
      · exact h.2 1 (by omega)
      · exact h.2 0 (by omega)
    · exact ⟨fun _ => ⟨hu.1, hu.2.1⟩, h.2⟩
  · exact h
theorem lawg_rn_gr {O : List Gr.Op} {c : Int} (hl : ∀ k, k < O.length → Fo.Nice 5 1 (O.getD k Gr.op0)) (hn : O.length ≤ 30) (hc : 0 ≤ c ∧ c < 5) : Rn5 (Fo.gr (Fo.lawG fgX fgY fgA O c)) := by
  have h0 := Fo.gr_lawG_chk fgX fgY fgA hl hn hc
  have hr := lawg_rn hl hn hc
  have hlen : ∀ b : Gr.Blk, b.next.length ≤ 2 → (Fo.blk b).next.length ≤ 2 := fun b hb => blk_nx_len hb
  refine ⟨h0, fit_of h0 (fun b hb => ?_) rfl, rfl, rfl, rfl, rfl, rfl, by rw [Fo.gr_len]; exact hr.blks, fun k hk => ?_, fun k hk => ?_⟩
  · obtain ⟨b', hb', rfl⟩ := List.mem_map.1 hb
    have hb2 : b' ∈ [(⟨O, c, [1, 2]⟩ : Gr.Blk), ⟨[Fo.op77], 0, [2]⟩, ⟨[], 0, []⟩] := hb'
    rw [Fo.blk_ops, Fo.ops_len]
    have h2 : b'.next.length ≤ 2 ∧ b'.ops.length ≤ 1000 := by
      simp at hb2
      rcases hb2 with rfl | rfl | rfl <;> simp <;> omega
    exact ⟨h2.2, hlen _ h2.1⟩
  · rw [Fo.gr_len] at hk
    have h := hr.ops k hk
    rw [Fo.gr_blk _ hk, Fo.blk_ops]
    exact ⟨by rw [Fo.ops_len]; exact h.1, fun j hj => Fo.ok_ops Fo.some0_wf h.2 hj⟩
  · rw [Fo.gr_len] at hk
    rw [Fo.gr_blk _ hk]
    exact blk_keep _ (Fo.acts_ops Fo.some0_wf (hr.ops k hk).2 _ (Nat.le_refl _)).2 (hr.nx k hk) rfl
/-- Run of such a graph. -/
theorem run5 {g : Gr.G} (h : Rn5 g) (hin : g.ins = [(fgX, -2147483648, 2147483647), (fgY, -2147483648, 2147483647)]) {x y : Int} (hx : Tr.isWd x) (hy : Tr.isWd y) {N : Nat} (hg : Tr.Goes g (Tr.start g 5 [x, y] 1000) N) (vi va vb vp vh vx : Value) (w : World) (hi : GrIn w g vi va vb vp vh) (hxs : NumsIn w vx [x, y]) :
    Calls Tryz.prog 10 #[.agg #[vi, .int .i64 5, .int .i64 5, va, .int .i64 0, vb, vp, vh], vx, .slice none 0 0, .int .i64 1000] w (RunPost 5 (Tr.pass g (Tr.its g (Tr.start g 5 [x, y] 1000) N)) w) := by
  have hw : ∀ z ∈ [x, y], Tr.isWd z := fun z hz => by
    simp at hz
    rcases hz with rfl | rfl
    · exact hx
    · exact hy
  have ha : g.ars.length = 1 := by rw [h.ars]; rfl
  have hil : g.ins.length = 2 := by rw [hin]; rfl
  have := rrun_any g 5 5 vi va vb vp vh vx [x, y] 1000 N w hi (by rw [h.pts]; exact pts_nil (by have := hi.pts; rwa [h.pts] at this)) h.fit h.chk h.vars (by omega) h.keep (by omega) h.sh (by omega) (by omega)
    (fun k hk => by rw [h.ars]; rw [ha] at hk; obtain rfl : k = 0 := (by omega); show (1 : Int) ≤ 4 ∧ (4 : Int) ≤ 16; omega) (by have := h.blks; omega) (by rw [ha]; exact h.ops) h.nx hxs (by rw [hil]; rfl) (by show 2 ≤ 5; omega)
    (fun i hi2 => by
      rw [hin] at hi2 ⊢
      have hi3 : i = 0 ∨ i = 1 := by have : i < 2 := hi2; omega
      rcases hi3 with rfl | rfl
      · exact hx
      · exact hy) hw (by omega) hg
  rw [h.vars, h.keep, h.sh] at this
  exact this
end Go.Proofs.YtojflhkmonicoaaGreat
namespace Go.Proofs.YtojflhkmonicoaaGreat
open Go.RowKit
set_option linter.unusedVariables false
set_option linter.unusedSimpArgs false
theorem nums_sl {w : World} {v : Value} {l : List Int} (h : NumsIn w v l) : ∃ A n c, v = .slice A n c := by
  obtain ⟨A, c, e, -⟩ := h.opened
  exact ⟨A, _, c, e⟩
theorem lsts_sl {w : World} {v : Value} {l : List (List Int)} (h : LstsIn w v l) : ∃ A n c, v = .slice A n c := by
  obtain ⟨A, c, e, -⟩ := h
  exact ⟨A, _, c, e⟩
theorem gr_sl {w : World} {g : Gr.G} {vi va vb vp vh : Value} (h : GrIn w g vi va vb vp vh) : (∃ A n c, vi = .slice A n c) ∧ (∃ A n c, va = .slice A n c) ∧ (∃ A n c, vb = .slice A n c) ∧ (∃ A n c, vp = .slice A n c) ∧ (∃ A n c, vh = .slice A n c) := by
  obtain ⟨A1, c1, e1, -⟩ := h.ins.opened
  obtain ⟨A2, c2, e2, -⟩ := h.ars.opened
  obtain ⟨A3, c3, a1, a2, k1, k2, e3, -⟩ := id h.blks
  obtain ⟨A4, c4, e4, -⟩ := h.pts
  obtain ⟨A5, c5, e5, -⟩ := h.hds.opened
  exact ⟨⟨_, _, _, e1⟩, ⟨_, _, _, e2⟩, ⟨_, _, _, e3⟩, ⟨_, _, _, e4⟩, ⟨_, _, _, e5⟩⟩
theorem fold5 {g : Gr.G} (h : Rn5 g) (vi va vb vp vh : Value) (w : World) (hi : GrIn w g vi va vb vp vh) :
    Calls Tryz.prog 9 #[.agg #[vi, .int .i64 5, .int .i64 5, va, .int .i64 0, vb, vp, vh]] w fun e w' => Below w.heap.size w w' ∧ ∃ A1 n1 c1 A2 n2 c2 A3 n3 c3 A4 n4 c4 A5 n5 c5 A6 n6 c6, e = .returned (.tuple #[.agg #[.slice A1 n1 c1, .int .i64 5, .int .i64 5, .slice A2 n2 c2, .int .i64 0, .slice A3 n3 c3, .slice A4 n4 c4, .slice A5 n5 c5], .slice A6 n6 c6, .int .i64 0]) ∧ GrIn w' (Fo.gr g) (.slice A1 n1 c1) (.slice A2 n2 c2) (.slice A3 n3 c3) (.slice A4 n4 c4) (.slice A5 n5 c5) := by
  have H := foldg_ans g vi va vb vp vh w hi h.fit
  unfold FoldAns at H
  rw [h.vars, h.keep, h.sh] at H
  refine H.mono fun e w' hp => ?_
  obtain ⟨hb, ⟨h0, -⟩ | ⟨-, vi', va', vb', vp', vh', vs, he, hg, hl⟩⟩ := hp
  · exact absurd h.chk h0
  · obtain ⟨⟨A1, n1, c1, rfl⟩, ⟨A2, n2, c2, rfl⟩, ⟨A3, n3, c3, rfl⟩, ⟨A4, n4, c4, rfl⟩, ⟨A5, n5, c5, rfl⟩⟩ := gr_sl hg
    obtain ⟨A6, n6, c6, rfl⟩ := lsts_sl hl
    exact ⟨hb, _, _, _, _, _, _, _, _, _, _, _, _, _, _, _, _, _, _, he, hg⟩
theorem agree5 {g : Gr.G} (h : Rn5 g) (vi va vb vp vh : Value) (w : World) (hi : GrIn w g vi va vb vp vh) :
    Calls Tryz.prog 6 #[.agg #[vi, .int .i64 5, .int .i64 5, va, .int .i64 0, vb, vp, vh]] w fun e w' => e = .returned (.bool true) ∧ Below w.heap.size w w' := by
  have H := agree_any g (Fo.ans g) (Fo.lst g) (Gr.chk g) vi va vb vp vh w hi
    (fun U hU => (foldg_ans g vi va vb vp vh U (hi.below hU) h.fit).mono fun _ _ h => foldans_pass h)
    (fun U hU => (rfoldg_any g vi va vb vp vh U (hi.below hU) (by rw [h.pts]; exact pts_nil (by have := (hi.below hU).pts; rwa [h.pts] at this)) h.fit).mono fun _ _ h => foldans_pass h)
    ans_fit lst_fit.1 lst_fit.2
  rw [h.vars, h.keep, h.sh] at H
  exact H
theorem same5 {g : Gr.G} (h : Rn5 g) (vi va vb vp vh vi' va' vb' vp' vh' : Value) (w : World) (hi : GrIn w g vi va vb vp vh) (hi' : GrIn w g vi' va' vb' vp' vh') :
    Calls Tryz.prog 12 #[.agg #[vi, .int .i64 5, .int .i64 5, va, .int .i64 0, vb, vp, vh], .agg #[vi', .int .i64 5, .int .i64 5, va', .int .i64 0, vb', vp', vh']] w fun e w' => e = .returned (.bool true) ∧ Below w.heap.size w w' := by
  have H := same_any g vi va vb vp vh vi' va' vb' vp' vh' w hi hi' h.fit
  rw [h.vars, h.keep, h.sh] at H
  exact H
/-- What a run comes to. -/
structure End5 (c : Tr.Cf) : Prop where
  cnt : c.cnt.length ≤ maxLen
  ars : c.s.ars.length ≤ maxLen ∧ ∀ q ∈ c.s.ars, q.length ≤ maxLen
theorem run5s {g : Gr.G} (h : Rn5 g) (hin : g.ins = [(fgX, -2147483648, 2147483647), (fgY, -2147483648, 2147483647)]) {x y : Int} (hx : Tr.isWd x) (hy : Tr.isWd y) {N : Nat} (hg : Tr.Goes g (Tr.start g 5 [x, y] 1000) N) (c : Tr.Cf) (hc : Tr.pass g (Tr.its g (Tr.start g 5 [x, y] 1000) N) = c) (vi va vb vp vh vx : Value) (w : World) (hi : GrIn w g vi va vb vp vh) (hxs : NumsIn w vx [x, y]) :
    Calls Tryz.prog 10 #[.agg #[vi, .int .i64 5, .int .i64 5, va, .int .i64 0, vb, vp, vh], vx, .slice none 0 0, .int .i64 1000] w fun e w' => Below w.heap.size w w' ∧ ∃ A1 n1 c1 A2 n2 c2 A3 n3 c3 A4 n4 c4, e = .returned (.tuple #[.agg #[.slice A1 n1 c1, .slice A2 n2 c2, .slice A3 n3 c3, .slice A4 n4 c4, .int .i64 c.steps], .int .i64 0]) ∧
      NumsIn w' (.slice A1 n1 c1) (c.s.vs.take 5) ∧ LstsIn w' (.slice A2 n2 c2) c.s.ars ∧ LstsIn w' (.slice A3 n3 c3) [] ∧ NumsIn w' (.slice A4 n4 c4) c.cnt := by
  subst hc
  refine (run5 h hin hx hy hg vi va vb vp vh vx w hi hxs).mono fun e w' hp => ?_
  obtain ⟨v1, v2, v3, v4, he, hb, h1, h2, h3, h4⟩ := hp
  obtain ⟨A1, n1, c1, rfl⟩ := nums_sl h1
  obtain ⟨A2, n2, c2, rfl⟩ := lsts_sl h2
  obtain ⟨A3, n3, c3, rfl⟩ := lsts_sl h3
  obtain ⟨A4, n4, c4, rfl⟩ := nums_sl h4
  exact ⟨hb, _, _, _, _, _, _, _, _, _, _, _, _, he, h1, h2, h3, h4⟩
/-- All that FoldOps needs of its graph. -/
structure Ops5 (G : Gr.G) (x y : Int) (c : Tr.Cf) : Prop where
  old : Rn5 G
  new : Rn5 (Fo.gr G)
  again : Fo.gr (Fo.gr G) = Fo.gr G
  ins : G.ins = [(fgX, -2147483648, 2147483647), (fgY, -2147483648, 2147483647)]
  runs : ∃ N, Tr.Goes G (Tr.start G 5 [x, y] 1000) N ∧ Tr.pass G (Tr.its G (Tr.start G 5 [x, y] 1000) N) = c ∧ Tr.Goes (Fo.gr G) (Tr.start (Fo.gr G) 5 [x, y] 1000) N ∧ Tr.pass (Fo.gr G) (Tr.its (Fo.gr G) (Tr.start (Fo.gr G) 5 [x, y] 1000) N) = c
  fin : End5 c
theorem ops5 {O : List Gr.Op} {c x y : Int} (hl : ∀ k, k < O.length → Fo.Nice 5 1 (O.getD k Gr.op0)) (hn : O.length ≤ 30) (hc : 0 ≤ c ∧ c < 5) (hx : Tr.isWd x) (hy : Tr.isWd y) : ∃ q, Ops5 (Fo.lawG fgX fgY fgA O c) x y q := by
  have h1 := lawg_rn hl hn hc
  have h2 := lawg_rn_gr hl hn hc
  obtain ⟨N, hg⟩ := Fo.lawG_goes fgX fgY fgA O c [x, y] hn
  have hw : ∀ z ∈ [x, y], Tr.isWd z := fun z hz => by
    simp at hz
    rcases hz with rfl | rfl
    · exact hx
    · exact hy
  have hwf := Fo.lawG_wf fgX fgY fgA O c (xs := [x, y]) (by show 2 ≤ 5; omega) hw
  have hops := fun k hk => (h1.ops k hk).2
  have hk := Fo.goes_gr hwf hops (fun k hk => (h1.nx k hk).1) hg
  have hst : Tr.start (Fo.gr (Fo.lawG fgX fgY fgA O c)) 5 [x, y] 1000 = Tr.start (Fo.lawG fgX fgY fgA O c) 5 [x, y] 1000 := by
    unfold Tr.start
    rw [Fo.gr_len]
    rfl
  have hwN := Tr.its_wf hwf hops hg N (Nat.le_refl _)
  have hwe := hwN.acts (hops _ (hg.at_ N (Nat.le_refl _))) _ (Nat.le_refl _)
  refine ⟨_, h1, h2, Fo.gr_gr _, rfl, ⟨N, hg, rfl, by rw [hst]; exact hk.1, by rw [hst]; exact hk.2⟩, ?_, ?_⟩
  · show ((Tr.its _ _ N).cnt.set _ _).length ≤ maxLen
    rw [List.length_set, Tr.its_cnt_len]
    show (List.replicate 3 (0 : Int)).length ≤ maxLen
    unfold maxLen
    simp
  · refine ⟨?_, fun q hq => ?_⟩
    · have := hwe.al
      show (Tr.acts _ _ _).ars.length ≤ maxLen
      unfold maxLen
      omega
    · have := hwe.as q hq
      unfold maxLen
      omega
end Go.Proofs.YtojflhkmonicoaaGreat
namespace Go.Proofs.YtojflhkmonicoaaGreat
open Go.RowKit
set_option linter.unusedVariables false
set_option linter.unusedSimpArgs false
attribute [local go_sem] y_undef
theorem nice_to {l : List Int} (hb : ∀ z ∈ l, 0 ≤ z ∧ z ≤ 255) : ∀ k, k < (Fo.opsTo l (Fo.opsN l)).length → Fo.Nice 5 1 ((Fo.opsTo l (Fo.opsN l)).getD k Gr.op0) := by
  intro k hk
  have hbd : ∀ i, 0 ≤ l.getD i 0 ∧ l.getD i 0 ≤ 255 := fun i => by
    rcases Nat.lt_or_ge i l.length with h | h
    · exact hb _ (by rw [List.getD_eq_getElem?_getD, List.getElem?_eq_getElem h]; exact List.getElem_mem h)
    · rw [List.getD_eq_getElem?_getD, List.getElem?_eq_none h]; simp
  rw [Fo.opsTo_len] at hk
  have e : (Fo.opsTo l (Fo.opsN l)).getD k Gr.op0 = Fo.opOf (l.getD (3 * k) 0) (l.getD (3 * k + 1) 0) (l.getD (3 * k + 2) 0) := by
    unfold Fo.opsTo
    rw [List.getD_eq_getElem?_getD]
    simp [hk]
  rw [e]
  exact Fo.nice_of (hbd _) (hbd _) (hbd _)
set_option maxHeartbeats 4000000 in
set_option maxRecDepth 100000 in
theorem foldops_law (l : List Int) (v : Value) (c x y : Int) (w : World) (hv : IntsIn .u8 w v l) (hb : ∀ z ∈ l, 0 ≤ z ∧ z ≤ 255) (hl : l.length ≤ maxLen) (hc : 0 ≤ c ∧ c ≤ 255) (hx : Tr.isWd x) (hy : Tr.isWd y) :
    Calls Tryz.prog 4 #[v, .int .u8 c, .int .i32 x, .int .i32 y] w fun e w' => e = .returned (.bool true) ∧ Below w.heap.size w w' := by
  have hni := nice_to hb
  have hnl : (Fo.opsTo l (Fo.opsN l)).length ≤ 30 := by rw [Fo.opsTo_len]; unfold Fo.opsN; omega
  obtain ⟨O, hO⟩ : ∃ O, Fo.opsTo l (Fo.opsN l) = O := ⟨_, rfl⟩
  have HOps := Lib.hid fun (W : World) (hW : Below w.heap.size w W) => ops_any l v W (hv.below hW) hb hl
  rw [hO] at HOps hni hnl
  obtain ⟨q, hq⟩ := ops5 (c := c % 5) hni hnl (by omega) hx hy
  have hw2 : wrap64 x = x ∧ wrap64 y = y := by unfold Tr.isWd at hx hy; exact ⟨IntWalk.wrap64_in _ (by omega), IntWalk.wrap64_in _ (by omega)⟩
  have hxy := hw2.1
  have hyy := hw2.2
  have HW := Lib.hid (And.intro hx hy)
  clear hv hO hb hl hni hnl hx hy hw2
  obtain ⟨G, hG⟩ : ∃ G, Fo.lawG fgX fgY fgA O (c % 5) = G := ⟨_, rfl⟩
  rw [hG] at hq
  have HG := Lib.hid hG
  have HQ := Lib.hid hq
  clear hG hq
  have HI := Lib.hid (show Below w.heap.size w ((w.alloc (.cells #[.string ⟨#[120]⟩, .int .i64 (-2147483648), .int .i64 2147483647, .string ⟨#[121]⟩, .int .i64 (-2147483648), .int .i64 2147483647] 33)).alloc (.cells #[.string ⟨#[97]⟩, .int .i64 4] 35)) ∧ Bk ((w.alloc (.cells #[.string ⟨#[120]⟩, .int .i64 (-2147483648), .int .i64 2147483647, .string ⟨#[121]⟩, .int .i64 (-2147483648), .int .i64 2147483647] 33)).alloc (.cells #[.string ⟨#[97]⟩, .int .i64 4] 35)) w.heap.size 33 #[.string ⟨#[120]⟩, .int .i64 (-2147483648), .int .i64 2147483647, .string ⟨#[121]⟩, .int .i64 (-2147483648), .int .i64 2147483647] ∧ Bk ((w.alloc (.cells #[.string ⟨#[120]⟩, .int .i64 (-2147483648), .int .i64 2147483647, .string ⟨#[121]⟩, .int .i64 (-2147483648), .int .i64 2147483647] 33)).alloc (.cells #[.string ⟨#[97]⟩, .int .i64 4] 35)) (w.heap.size + 1) 35 #[.string ⟨#[97]⟩, .int .i64 4] from ⟨bla (bla (Below.refl _ _) _) _, bk_al (Bk.new _ _ _) _, bk_nw (by rw [size_alloc])⟩)
  go_enter Tryz.func4, Tryz.ntmps4
  go_wp2_with fail
  refine (HOps.out _ HI.out.1).mono ?_
  rintro e w1 ⟨y1, rfl, hom⟩
  obtain ⟨A, C, rfl⟩ := own_eta hom.2
  have HI1 := Lib.hid (show Below w.heap.size w w1 ∧ Bk w1 w.heap.size _ _ ∧ Bk w1 (w.heap.size + 1) _ _ from ⟨blt HI.out.1 hom.1, HI.out.2.1.below hom.1, HI.out.2.2.below hom.1⟩)
  have HOp := Lib.hid (show OpsIn w1 (.slice A O.length C) O from RowIn.own hom.2)
  clear hom HI HOps
  have HB := Lib.hid (show Below w.heap.size w (((((w1.alloc (.cells #[.int .i64 1, .int .i64 2] 3)).alloc (.cells #[.int .i64 1, .int .i64 4, .int .i64 0, .int .i64 0, .int .i64 77] 42)).alloc (.cells #[.int .i64 2] 3)).alloc (.cells #[.slice A O.length C, .int .i64 (c % 5), .slice (some ⟨w1.heap.size, 0, none⟩) 2 2, .slice (some ⟨w1.heap.size + 1, 0, none⟩) 1 1, .int .i64 0, .slice (some ⟨w1.heap.size + 1 + 1, 0, none⟩) 1 1, .slice none 0 0, .int .i64 0, .slice none 0 0] 40)).alloc (.cells #[.slice (some ⟨w.heap.size, 0, none⟩) 2 2, .int .i64 5, .int .i64 5, .slice (some ⟨w.heap.size + 1, 0, none⟩) 1 1, .int .i64 0, .slice (some ⟨w1.heap.size + 1 + 1 + 1, 0, none⟩) 3 3, .slice none 0 0, .slice none 0 0] 28)) from bla (bla (bla (bla (bla HI1.out.1 _) _) _) _) _)
  have HX0 := Lib.hid (show Bk (((((w1.alloc (.cells #[.int .i64 1, .int .i64 2] 3)).alloc (.cells #[.int .i64 1, .int .i64 4, .int .i64 0, .int .i64 0, .int .i64 77] 42)).alloc (.cells #[.int .i64 2] 3)).alloc (.cells #[.slice A O.length C, .int .i64 (c % 5), .slice (some ⟨w1.heap.size, 0, none⟩) 2 2, .slice (some ⟨w1.heap.size + 1, 0, none⟩) 1 1, .int .i64 0, .slice (some ⟨w1.heap.size + 1 + 1, 0, none⟩) 1 1, .slice none 0 0, .int .i64 0, .slice none 0 0] 40)).alloc (.cells #[.slice (some ⟨w.heap.size, 0, none⟩) 2 2, .int .i64 5, .int .i64 5, .slice (some ⟨w.heap.size + 1, 0, none⟩) 1 1, .int .i64 0, .slice (some ⟨w1.heap.size + 1 + 1 + 1, 0, none⟩) 3 3, .slice none 0 0, .slice none 0 0] 28)) (w1.heap.size + 1 + 1 + 1 + 1) 28 #[.slice (some ⟨w.heap.size, 0, none⟩) 2 2, .int .i64 5, .int .i64 5, .slice (some ⟨w.heap.size + 1, 0, none⟩) 1 1, .int .i64 0, .slice (some ⟨w1.heap.size + 1 + 1 + 1, 0, none⟩) 3 3, .slice none 0 0, .slice none 0 0] from bk_nw (by simp only [size_alloc]))
  have HG0 := Lib.hid (show GrIn (((((w1.alloc (.cells #[.int .i64 1, .int .i64 2] 3)).alloc (.cells #[.int .i64 1, .int .i64 4, .int .i64 0, .int .i64 0, .int .i64 77] 42)).alloc (.cells #[.int .i64 2] 3)).alloc (.cells #[.slice A O.length C, .int .i64 (c % 5), .slice (some ⟨w1.heap.size, 0, none⟩) 2 2, .slice (some ⟨w1.heap.size + 1, 0, none⟩) 1 1, .int .i64 0, .slice (some ⟨w1.heap.size + 1 + 1, 0, none⟩) 1 1, .slice none 0 0, .int .i64 0, .slice none 0 0] 40)).alloc (.cells #[.slice (some ⟨w.heap.size, 0, none⟩) 2 2, .int .i64 5, .int .i64 5, .slice (some ⟨w.heap.size + 1, 0, none⟩) 1 1, .int .i64 0, .slice (some ⟨w1.heap.size + 1 + 1 + 1, 0, none⟩) 3 3, .slice none 0 0, .slice none 0 0] 28)) G _ _ _ _ _ from by
    have hb1 : Below w1.heap.size w1 (((((w1.alloc (.cells #[.int .i64 1, .int .i64 2] 3)).alloc (.cells #[.int .i64 1, .int .i64 4, .int .i64 0, .int .i64 0, .int .i64 77] 42)).alloc (.cells #[.int .i64 2] 3)).alloc (.cells #[.slice A O.length C, .int .i64 (c % 5), .slice (some ⟨w1.heap.size, 0, none⟩) 2 2, .slice (some ⟨w1.heap.size + 1, 0, none⟩) 1 1, .int .i64 0, .slice (some ⟨w1.heap.size + 1 + 1, 0, none⟩) 1 1, .slice none 0 0, .int .i64 0, .slice none 0 0] 40)).alloc (.cells #[.slice (some ⟨w.heap.size, 0, none⟩) 2 2, .int .i64 5, .int .i64 5, .slice (some ⟨w.heap.size + 1, 0, none⟩) 1 1, .int .i64 0, .slice (some ⟨w1.heap.size + 1 + 1 + 1, 0, none⟩) 3 3, .slice none 0 0, .slice none 0 0] 28)) := bla (bla (bla (bla (bla (Below.refl _ _) _) _) _) _) _
    rw [← HG.out]
    exact lawg_in (HI1.out.2.1.below hb1) (HI1.out.2.2.below hb1) (HOp.out.below hb1) (gB := w1.heap.size) (gC := w1.heap.size + 1) (gD := w1.heap.size + 1 + 1) (gE := w1.heap.size + 1 + 1 + 1)
      (bk_al (bk_al (bk_al (bk_al (bk_nw rfl) _) _) _) _) (bk_al (bk_al (bk_al (bk_nw (by simp only [size_alloc])) _) _) _) (bk_al (bk_al (bk_nw (by simp only [size_alloc])) _) _) (bk_al (bk_nw (by simp only [size_alloc])) _))
  clear HI1 HOp HG
  go_upto_region 3 with fail
  generalize w1.heap.size + 1 + 1 + 1 + 1 = b0 at HX0 ⊢
  generalize (((((w1.alloc (.cells #[.int .i64 1, .int .i64 2] 3)).alloc (.cells #[.int .i64 1, .int .i64 4, .int .i64 0, .int .i64 0, .int .i64 77] 42)).alloc (.cells #[.int .i64 2] 3)).alloc (.cells #[.slice A O.length C, .int .i64 (c % 5), .slice (some ⟨w1.heap.size, 0, none⟩) 2 2, .slice (some ⟨w1.heap.size + 1, 0, none⟩) 1 1, .int .i64 0, .slice (some ⟨w1.heap.size + 1 + 1, 0, none⟩) 1 1, .slice none 0 0, .int .i64 0, .slice none 0 0] 40)).alloc (.cells #[.slice (some ⟨w.heap.size, 0, none⟩) 2 2, .int .i64 5, .int .i64 5, .slice (some ⟨w.heap.size + 1, 0, none⟩) 1 1, .int .i64 0, .slice (some ⟨w1.heap.size + 1 + 1 + 1, 0, none⟩) 3 3, .slice none 0 0, .slice none 0 0] 28)) = W2 at HB HX0 HG0 ⊢
  have g0 := HX0.out.cell 0
  have g1 := HX0.out.cell 1
  have g2 := HX0.out.cell 2
  have g3 := HX0.out.cell 3
  have g4 := HX0.out.cell 4
  have g5 := HX0.out.cell 5
  have g6 := HX0.out.cell 6
  have g7 := HX0.out.cell 7
  go_wp2_with fail
  refine (fold5 HQ.out.old _ _ _ _ _ W2 HG0.out).mono ?_
  rintro e w3 ⟨hb, A1_1, n1_1, c1_1, A1_2, n1_2, c1_2, A1_3, n1_3, c1_3, A1_4, n1_4, c1_4, A1_5, n1_5, c1_5, A1_6, n1_6, c1_6, rfl, hg⟩
  clear g0 g1 g2 g3 g4 g5 g6 g7
  replace HB := Lib.hid (show Below w.heap.size w w3 from blt HB.out hb)
  replace HX0 := Lib.hid (show Bk w3 b0 28 #[.slice (some ⟨w.heap.size, 0, none⟩) 2 2, .int .i64 5, .int .i64 5, .slice (some ⟨w.heap.size + 1, 0, none⟩) 1 1, .int .i64 0, .slice (some ⟨w1.heap.size + 1 + 1 + 1, 0, none⟩) 3 3, .slice none 0 0, .slice none 0 0] from HX0.out.below hb)
  replace HG0 := Lib.hid (show GrIn w3 G (.slice (some ⟨w.heap.size, 0, none⟩) 2 2) (.slice (some ⟨w.heap.size + 1, 0, none⟩) 1 1) (.slice (some ⟨w1.heap.size + 1 + 1 + 1, 0, none⟩) 3 3) (.slice none 0 0) (.slice none 0 0) from HG0.out.below hb)
  have hbk : Below w3.heap.size w3 (w3.alloc (.cells #[.slice A1_1 n1_1 c1_1, .int .i64 5, .int .i64 5, .slice A1_2 n1_2 c1_2, .int .i64 0, .slice A1_3 n1_3 c1_3, .slice A1_4 n1_4 c1_4, .slice A1_5 n1_5 c1_5] 28)) := bla (Below.refl _ _) _
  replace HB := Lib.hid (show Below w.heap.size w (w3.alloc (.cells #[.slice A1_1 n1_1 c1_1, .int .i64 5, .int .i64 5, .slice A1_2 n1_2 c1_2, .int .i64 0, .slice A1_3 n1_3 c1_3, .slice A1_4 n1_4 c1_4, .slice A1_5 n1_5 c1_5] 28)) from blt HB.out hbk)
  replace HX0 := Lib.hid (show Bk (w3.alloc (.cells #[.slice A1_1 n1_1 c1_1, .int .i64 5, .int .i64 5, .slice A1_2 n1_2 c1_2, .int .i64 0, .slice A1_3 n1_3 c1_3, .slice A1_4 n1_4 c1_4, .slice A1_5 n1_5 c1_5] 28)) b0 28 #[.slice (some ⟨w.heap.size, 0, none⟩) 2 2, .int .i64 5, .int .i64 5, .slice (some ⟨w.heap.size + 1, 0, none⟩) 1 1, .int .i64 0, .slice (some ⟨w1.heap.size + 1 + 1 + 1, 0, none⟩) 3 3, .slice none 0 0, .slice none 0 0] from HX0.out.below hbk)
  replace HG0 := Lib.hid (show GrIn (w3.alloc (.cells #[.slice A1_1 n1_1 c1_1, .int .i64 5, .int .i64 5, .slice A1_2 n1_2 c1_2, .int .i64 0, .slice A1_3 n1_3 c1_3, .slice A1_4 n1_4 c1_4, .slice A1_5 n1_5 c1_5] 28)) G (.slice (some ⟨w.heap.size, 0, none⟩) 2 2) (.slice (some ⟨w.heap.size + 1, 0, none⟩) 1 1) (.slice (some ⟨w1.heap.size + 1 + 1 + 1, 0, none⟩) 3 3) (.slice none 0 0) (.slice none 0 0) from HG0.out.below hbk)
  have HG1 := Lib.hid (show GrIn (w3.alloc (.cells #[.slice A1_1 n1_1 c1_1, .int .i64 5, .int .i64 5, .slice A1_2 n1_2 c1_2, .int .i64 0, .slice A1_3 n1_3 c1_3, .slice A1_4 n1_4 c1_4, .slice A1_5 n1_5 c1_5] 28)) (Fo.gr G) (.slice A1_1 n1_1 c1_1) (.slice A1_2 n1_2 c1_2) (.slice A1_3 n1_3 c1_3) (.slice A1_4 n1_4 c1_4) (.slice A1_5 n1_5 c1_5) from hg.below hbk)
  have HX1 := Lib.hid (show Bk (w3.alloc (.cells #[.slice A1_1 n1_1 c1_1, .int .i64 5, .int .i64 5, .slice A1_2 n1_2 c1_2, .int .i64 0, .slice A1_3 n1_3 c1_3, .slice A1_4 n1_4 c1_4, .slice A1_5 n1_5 c1_5] 28)) w3.heap.size 28 #[.slice A1_1 n1_1 c1_1, .int .i64 5, .int .i64 5, .slice A1_2 n1_2 c1_2, .int .i64 0, .slice A1_3 n1_3 c1_3, .slice A1_4 n1_4 c1_4, .slice A1_5 n1_5 c1_5] from Bk.new _ _ _)
  clear hg hb hbk
  go_upto_region 4 with fail
  generalize w3.heap.size = b1 at HX1 ⊢
  generalize (w3.alloc (.cells #[.slice A1_1 n1_1 c1_1, .int .i64 5, .int .i64 5, .slice A1_2 n1_2 c1_2, .int .i64 0, .slice A1_3 n1_3 c1_3, .slice A1_4 n1_4 c1_4, .slice A1_5 n1_5 c1_5] 28)) = W3 at HB HX1 HG1 HX0 HG0 ⊢
  have g0 := HX1.out.cell 0
  have g1 := HX1.out.cell 1
  have g2 := HX1.out.cell 2
  have g3 := HX1.out.cell 3
  have g4 := HX1.out.cell 4
  have g5 := HX1.out.cell 5
  have g6 := HX1.out.cell 6
  have g7 := HX1.out.cell 7
  go_wp2_with fail
  refine (fold5 HQ.out.new _ _ _ _ _ W3 HG1.out).mono ?_
  rintro e w4 ⟨hb, A2_1, n2_1, c2_1, A2_2, n2_2, c2_2, A2_3, n2_3, c2_3, A2_4, n2_4, c2_4, A2_5, n2_5, c2_5, A2_6, n2_6, c2_6, rfl, hg⟩
  clear g0 g1 g2 g3 g4 g5 g6 g7
  replace HB := Lib.hid (show Below w.heap.size w w4 from blt HB.out hb)
  replace HX0 := Lib.hid (show Bk w4 b0 28 #[.slice (some ⟨w.heap.size, 0, none⟩) 2 2, .int .i64 5, .int .i64 5, .slice (some ⟨w.heap.size + 1, 0, none⟩) 1 1, .int .i64 0, .slice (some ⟨w1.heap.size + 1 + 1 + 1, 0, none⟩) 3 3, .slice none 0 0, .slice none 0 0] from HX0.out.below hb)
  replace HG0 := Lib.hid (show GrIn w4 G (.slice (some ⟨w.heap.size, 0, none⟩) 2 2) (.slice (some ⟨w.heap.size + 1, 0, none⟩) 1 1) (.slice (some ⟨w1.heap.size + 1 + 1 + 1, 0, none⟩) 3 3) (.slice none 0 0) (.slice none 0 0) from HG0.out.below hb)
  replace HX1 := Lib.hid (show Bk w4 b1 28 #[.slice A1_1 n1_1 c1_1, .int .i64 5, .int .i64 5, .slice A1_2 n1_2 c1_2, .int .i64 0, .slice A1_3 n1_3 c1_3, .slice A1_4 n1_4 c1_4, .slice A1_5 n1_5 c1_5] from HX1.out.below hb)
  replace HG1 := Lib.hid (show GrIn w4 (Fo.gr G) (.slice A1_1 n1_1 c1_1) (.slice A1_2 n1_2 c1_2) (.slice A1_3 n1_3 c1_3) (.slice A1_4 n1_4 c1_4) (.slice A1_5 n1_5 c1_5) from HG1.out.below hb)
  have hbk : Below w4.heap.size w4 (w4.alloc (.cells #[.slice A2_1 n2_1 c2_1, .int .i64 5, .int .i64 5, .slice A2_2 n2_2 c2_2, .int .i64 0, .slice A2_3 n2_3 c2_3, .slice A2_4 n2_4 c2_4, .slice A2_5 n2_5 c2_5] 28)) := bla (Below.refl _ _) _
  replace HB := Lib.hid (show Below w.heap.size w (w4.alloc (.cells #[.slice A2_1 n2_1 c2_1, .int .i64 5, .int .i64 5, .slice A2_2 n2_2 c2_2, .int .i64 0, .slice A2_3 n2_3 c2_3, .slice A2_4 n2_4 c2_4, .slice A2_5 n2_5 c2_5] 28)) from blt HB.out hbk)
  replace HX0 := Lib.hid (show Bk (w4.alloc (.cells #[.slice A2_1 n2_1 c2_1, .int .i64 5, .int .i64 5, .slice A2_2 n2_2 c2_2, .int .i64 0, .slice A2_3 n2_3 c2_3, .slice A2_4 n2_4 c2_4, .slice A2_5 n2_5 c2_5] 28)) b0 28 #[.slice (some ⟨w.heap.size, 0, none⟩) 2 2, .int .i64 5, .int .i64 5, .slice (some ⟨w.heap.size + 1, 0, none⟩) 1 1, .int .i64 0, .slice (some ⟨w1.heap.size + 1 + 1 + 1, 0, none⟩) 3 3, .slice none 0 0, .slice none 0 0] from HX0.out.below hbk)
  replace HG0 := Lib.hid (show GrIn (w4.alloc (.cells #[.slice A2_1 n2_1 c2_1, .int .i64 5, .int .i64 5, .slice A2_2 n2_2 c2_2, .int .i64 0, .slice A2_3 n2_3 c2_3, .slice A2_4 n2_4 c2_4, .slice A2_5 n2_5 c2_5] 28)) G (.slice (some ⟨w.heap.size, 0, none⟩) 2 2) (.slice (some ⟨w.heap.size + 1, 0, none⟩) 1 1) (.slice (some ⟨w1.heap.size + 1 + 1 + 1, 0, none⟩) 3 3) (.slice none 0 0) (.slice none 0 0) from HG0.out.below hbk)
  replace HX1 := Lib.hid (show Bk (w4.alloc (.cells #[.slice A2_1 n2_1 c2_1, .int .i64 5, .int .i64 5, .slice A2_2 n2_2 c2_2, .int .i64 0, .slice A2_3 n2_3 c2_3, .slice A2_4 n2_4 c2_4, .slice A2_5 n2_5 c2_5] 28)) b1 28 #[.slice A1_1 n1_1 c1_1, .int .i64 5, .int .i64 5, .slice A1_2 n1_2 c1_2, .int .i64 0, .slice A1_3 n1_3 c1_3, .slice A1_4 n1_4 c1_4, .slice A1_5 n1_5 c1_5] from HX1.out.below hbk)
  replace HG1 := Lib.hid (show GrIn (w4.alloc (.cells #[.slice A2_1 n2_1 c2_1, .int .i64 5, .int .i64 5, .slice A2_2 n2_2 c2_2, .int .i64 0, .slice A2_3 n2_3 c2_3, .slice A2_4 n2_4 c2_4, .slice A2_5 n2_5 c2_5] 28)) (Fo.gr G) (.slice A1_1 n1_1 c1_1) (.slice A1_2 n1_2 c1_2) (.slice A1_3 n1_3 c1_3) (.slice A1_4 n1_4 c1_4) (.slice A1_5 n1_5 c1_5) from HG1.out.below hbk)
  rw [HQ.out.again] at hg
  have HG2 := Lib.hid (show GrIn (w4.alloc (.cells #[.slice A2_1 n2_1 c2_1, .int .i64 5, .int .i64 5, .slice A2_2 n2_2 c2_2, .int .i64 0, .slice A2_3 n2_3 c2_3, .slice A2_4 n2_4 c2_4, .slice A2_5 n2_5 c2_5] 28)) (Fo.gr G) (.slice A2_1 n2_1 c2_1) (.slice A2_2 n2_2 c2_2) (.slice A2_3 n2_3 c2_3) (.slice A2_4 n2_4 c2_4) (.slice A2_5 n2_5 c2_5) from hg.below hbk)
  have HX2 := Lib.hid (show Bk (w4.alloc (.cells #[.slice A2_1 n2_1 c2_1, .int .i64 5, .int .i64 5, .slice A2_2 n2_2 c2_2, .int .i64 0, .slice A2_3 n2_3 c2_3, .slice A2_4 n2_4 c2_4, .slice A2_5 n2_5 c2_5] 28)) w4.heap.size 28 #[.slice A2_1 n2_1 c2_1, .int .i64 5, .int .i64 5, .slice A2_2 n2_2 c2_2, .int .i64 0, .slice A2_3 n2_3 c2_3, .slice A2_4 n2_4 c2_4, .slice A2_5 n2_5 c2_5] from Bk.new _ _ _)
  clear hg hb hbk
  go_upto_region 5 with fail
  generalize w4.heap.size = b2 at HX2 ⊢
  generalize (w4.alloc (.cells #[.slice A2_1 n2_1 c2_1, .int .i64 5, .int .i64 5, .slice A2_2 n2_2 c2_2, .int .i64 0, .slice A2_3 n2_3 c2_3, .slice A2_4 n2_4 c2_4, .slice A2_5 n2_5 c2_5] 28)) = W4 at HB HX2 HG2 HX0 HG0 HX1 HG1 ⊢
  obtain ⟨N, hr⟩ := HQ.out.runs
  have HR := Lib.hid hr
  clear hr
  have g0 := HX0.out.cell 0
  have g1 := HX0.out.cell 1
  have g2 := HX0.out.cell 2
  have g3 := HX0.out.cell 3
  have g4 := HX0.out.cell 4
  have g5 := HX0.out.cell 5
  have g6 := HX0.out.cell 6
  have g7 := HX0.out.cell 7
  have hbk : Below W4.heap.size W4 (W4.alloc (.cells #[.int .i64 x, .int .i64 y] 3)) := bla (Below.refl _ _) _
  replace HB := Lib.hid (show Below w.heap.size w (W4.alloc (.cells #[.int .i64 x, .int .i64 y] 3)) from blt HB.out hbk)
  replace HX0 := Lib.hid (show Bk (W4.alloc (.cells #[.int .i64 x, .int .i64 y] 3)) b0 28 #[.slice (some ⟨w.heap.size, 0, none⟩) 2 2, .int .i64 5, .int .i64 5, .slice (some ⟨w.heap.size + 1, 0, none⟩) 1 1, .int .i64 0, .slice (some ⟨w1.heap.size + 1 + 1 + 1, 0, none⟩) 3 3, .slice none 0 0, .slice none 0 0] from HX0.out.below hbk)
  replace HG0 := Lib.hid (show GrIn (W4.alloc (.cells #[.int .i64 x, .int .i64 y] 3)) G (.slice (some ⟨w.heap.size, 0, none⟩) 2 2) (.slice (some ⟨w.heap.size + 1, 0, none⟩) 1 1) (.slice (some ⟨w1.heap.size + 1 + 1 + 1, 0, none⟩) 3 3) (.slice none 0 0) (.slice none 0 0) from HG0.out.below hbk)
  replace HX1 := Lib.hid (show Bk (W4.alloc (.cells #[.int .i64 x, .int .i64 y] 3)) b1 28 #[.slice A1_1 n1_1 c1_1, .int .i64 5, .int .i64 5, .slice A1_2 n1_2 c1_2, .int .i64 0, .slice A1_3 n1_3 c1_3, .slice A1_4 n1_4 c1_4, .slice A1_5 n1_5 c1_5] from HX1.out.below hbk)
  replace HG1 := Lib.hid (show GrIn (W4.alloc (.cells #[.int .i64 x, .int .i64 y] 3)) (Fo.gr G) (.slice A1_1 n1_1 c1_1) (.slice A1_2 n1_2 c1_2) (.slice A1_3 n1_3 c1_3) (.slice A1_4 n1_4 c1_4) (.slice A1_5 n1_5 c1_5) from HG1.out.below hbk)
  replace HX2 := Lib.hid (show Bk (W4.alloc (.cells #[.int .i64 x, .int .i64 y] 3)) b2 28 #[.slice A2_1 n2_1 c2_1, .int .i64 5, .int .i64 5, .slice A2_2 n2_2 c2_2, .int .i64 0, .slice A2_3 n2_3 c2_3, .slice A2_4 n2_4 c2_4, .slice A2_5 n2_5 c2_5] from HX2.out.below hbk)
  replace HG2 := Lib.hid (show GrIn (W4.alloc (.cells #[.int .i64 x, .int .i64 y] 3)) (Fo.gr G) (.slice A2_1 n2_1 c2_1) (.slice A2_2 n2_2 c2_2) (.slice A2_3 n2_3 c2_3) (.slice A2_4 n2_4 c2_4) (.slice A2_5 n2_5 c2_5) from HG2.out.below hbk)
  have HNm := Lib.hid (show NumsIn (W4.alloc (.cells #[.int .i64 x, .int .i64 y] 3)) (.slice (some ⟨W4.heap.size, 0, none⟩) 2 2) [x, y] from row_bk (Bk.new _ _ _) rfl rfl)
  clear hbk
  go_wp2_with fail
  refine (run5s HQ.out.old HQ.out.ins HW.out.1 HW.out.2 HR.out.1 q HR.out.2.1 _ _ _ _ _ _ _ HG0.out HNm.out).mono ?_
  rintro e w5 ⟨hb, P1_1, m1_1, d1_1, P1_2, m1_2, d1_2, P1_3, m1_3, d1_3, P1_4, m1_4, d1_4, rfl, h1, h2, h3, h4⟩
  clear g0 g1 g2 g3 g4 g5 g6 g7
  clear HNm
  replace HB := Lib.hid (show Below w.heap.size w w5 from blt HB.out hb)
  replace HX0 := Lib.hid (show Bk w5 b0 28 #[.slice (some ⟨w.heap.size, 0, none⟩) 2 2, .int .i64 5, .int .i64 5, .slice (some ⟨w.heap.size + 1, 0, none⟩) 1 1, .int .i64 0, .slice (some ⟨w1.heap.size + 1 + 1 + 1, 0, none⟩) 3 3, .slice none 0 0, .slice none 0 0] from HX0.out.below hb)
  replace HG0 := Lib.hid (show GrIn w5 G (.slice (some ⟨w.heap.size, 0, none⟩) 2 2) (.slice (some ⟨w.heap.size + 1, 0, none⟩) 1 1) (.slice (some ⟨w1.heap.size + 1 + 1 + 1, 0, none⟩) 3 3) (.slice none 0 0) (.slice none 0 0) from HG0.out.below hb)
  replace HX1 := Lib.hid (show Bk w5 b1 28 #[.slice A1_1 n1_1 c1_1, .int .i64 5, .int .i64 5, .slice A1_2 n1_2 c1_2, .int .i64 0, .slice A1_3 n1_3 c1_3, .slice A1_4 n1_4 c1_4, .slice A1_5 n1_5 c1_5] from HX1.out.below hb)
  replace HG1 := Lib.hid (show GrIn w5 (Fo.gr G) (.slice A1_1 n1_1 c1_1) (.slice A1_2 n1_2 c1_2) (.slice A1_3 n1_3 c1_3) (.slice A1_4 n1_4 c1_4) (.slice A1_5 n1_5 c1_5) from HG1.out.below hb)
  replace HX2 := Lib.hid (show Bk w5 b2 28 #[.slice A2_1 n2_1 c2_1, .int .i64 5, .int .i64 5, .slice A2_2 n2_2 c2_2, .int .i64 0, .slice A2_3 n2_3 c2_3, .slice A2_4 n2_4 c2_4, .slice A2_5 n2_5 c2_5] from HX2.out.below hb)
  replace HG2 := Lib.hid (show GrIn w5 (Fo.gr G) (.slice A2_1 n2_1 c2_1) (.slice A2_2 n2_2 c2_2) (.slice A2_3 n2_3 c2_3) (.slice A2_4 n2_4 c2_4) (.slice A2_5 n2_5 c2_5) from HG2.out.below hb)
  have hbk : Below w5.heap.size w5 (w5.alloc (.cells #[.slice P1_1 m1_1 d1_1, .slice P1_2 m1_2 d1_2, .slice P1_3 m1_3 d1_3, .slice P1_4 m1_4 d1_4, .int .i64 q.steps] 47)) := bla (Below.refl _ _) _
  replace HB := Lib.hid (show Below w.heap.size w (w5.alloc (.cells #[.slice P1_1 m1_1 d1_1, .slice P1_2 m1_2 d1_2, .slice P1_3 m1_3 d1_3, .slice P1_4 m1_4 d1_4, .int .i64 q.steps] 47)) from blt HB.out hbk)
  replace HX0 := Lib.hid (show Bk (w5.alloc (.cells #[.slice P1_1 m1_1 d1_1, .slice P1_2 m1_2 d1_2, .slice P1_3 m1_3 d1_3, .slice P1_4 m1_4 d1_4, .int .i64 q.steps] 47)) b0 28 #[.slice (some ⟨w.heap.size, 0, none⟩) 2 2, .int .i64 5, .int .i64 5, .slice (some ⟨w.heap.size + 1, 0, none⟩) 1 1, .int .i64 0, .slice (some ⟨w1.heap.size + 1 + 1 + 1, 0, none⟩) 3 3, .slice none 0 0, .slice none 0 0] from HX0.out.below hbk)
  replace HG0 := Lib.hid (show GrIn (w5.alloc (.cells #[.slice P1_1 m1_1 d1_1, .slice P1_2 m1_2 d1_2, .slice P1_3 m1_3 d1_3, .slice P1_4 m1_4 d1_4, .int .i64 q.steps] 47)) G (.slice (some ⟨w.heap.size, 0, none⟩) 2 2) (.slice (some ⟨w.heap.size + 1, 0, none⟩) 1 1) (.slice (some ⟨w1.heap.size + 1 + 1 + 1, 0, none⟩) 3 3) (.slice none 0 0) (.slice none 0 0) from HG0.out.below hbk)
  replace HX1 := Lib.hid (show Bk (w5.alloc (.cells #[.slice P1_1 m1_1 d1_1, .slice P1_2 m1_2 d1_2, .slice P1_3 m1_3 d1_3, .slice P1_4 m1_4 d1_4, .int .i64 q.steps] 47)) b1 28 #[.slice A1_1 n1_1 c1_1, .int .i64 5, .int .i64 5, .slice A1_2 n1_2 c1_2, .int .i64 0, .slice A1_3 n1_3 c1_3, .slice A1_4 n1_4 c1_4, .slice A1_5 n1_5 c1_5] from HX1.out.below hbk)
  replace HG1 := Lib.hid (show GrIn (w5.alloc (.cells #[.slice P1_1 m1_1 d1_1, .slice P1_2 m1_2 d1_2, .slice P1_3 m1_3 d1_3, .slice P1_4 m1_4 d1_4, .int .i64 q.steps] 47)) (Fo.gr G) (.slice A1_1 n1_1 c1_1) (.slice A1_2 n1_2 c1_2) (.slice A1_3 n1_3 c1_3) (.slice A1_4 n1_4 c1_4) (.slice A1_5 n1_5 c1_5) from HG1.out.below hbk)
  replace HX2 := Lib.hid (show Bk (w5.alloc (.cells #[.slice P1_1 m1_1 d1_1, .slice P1_2 m1_2 d1_2, .slice P1_3 m1_3 d1_3, .slice P1_4 m1_4 d1_4, .int .i64 q.steps] 47)) b2 28 #[.slice A2_1 n2_1 c2_1, .int .i64 5, .int .i64 5, .slice A2_2 n2_2 c2_2, .int .i64 0, .slice A2_3 n2_3 c2_3, .slice A2_4 n2_4 c2_4, .slice A2_5 n2_5 c2_5] from HX2.out.below hbk)
  replace HG2 := Lib.hid (show GrIn (w5.alloc (.cells #[.slice P1_1 m1_1 d1_1, .slice P1_2 m1_2 d1_2, .slice P1_3 m1_3 d1_3, .slice P1_4 m1_4 d1_4, .int .i64 q.steps] 47)) (Fo.gr G) (.slice A2_1 n2_1 c2_1) (.slice A2_2 n2_2 c2_2) (.slice A2_3 n2_3 c2_3) (.slice A2_4 n2_4 c2_4) (.slice A2_5 n2_5 c2_5) from HG2.out.below hbk)
  have HU1_0 := Lib.hid (show NumsIn (w5.alloc (.cells #[.slice P1_1 m1_1 d1_1, .slice P1_2 m1_2 d1_2, .slice P1_3 m1_3 d1_3, .slice P1_4 m1_4 d1_4, .int .i64 q.steps] 47)) (.slice P1_1 m1_1 d1_1) (q.s.vs.take 5) from h1.below hbk)
  have HU1_1 := Lib.hid (show LstsIn (w5.alloc (.cells #[.slice P1_1 m1_1 d1_1, .slice P1_2 m1_2 d1_2, .slice P1_3 m1_3 d1_3, .slice P1_4 m1_4 d1_4, .int .i64 q.steps] 47)) (.slice P1_2 m1_2 d1_2) q.s.ars from h2.below hbk)
  have HU1_2 := Lib.hid (show LstsIn (w5.alloc (.cells #[.slice P1_1 m1_1 d1_1, .slice P1_2 m1_2 d1_2, .slice P1_3 m1_3 d1_3, .slice P1_4 m1_4 d1_4, .int .i64 q.steps] 47)) (.slice P1_3 m1_3 d1_3) [] from h3.below hbk)
  have HU1_3 := Lib.hid (show NumsIn (w5.alloc (.cells #[.slice P1_1 m1_1 d1_1, .slice P1_2 m1_2 d1_2, .slice P1_3 m1_3 d1_3, .slice P1_4 m1_4 d1_4, .int .i64 q.steps] 47)) (.slice P1_4 m1_4 d1_4) q.cnt from h4.below hbk)
  have HZ1 := Lib.hid (show Bk (w5.alloc (.cells #[.slice P1_1 m1_1 d1_1, .slice P1_2 m1_2 d1_2, .slice P1_3 m1_3 d1_3, .slice P1_4 m1_4 d1_4, .int .i64 q.steps] 47)) w5.heap.size 47 #[.slice P1_1 m1_1 d1_1, .slice P1_2 m1_2 d1_2, .slice P1_3 m1_3 d1_3, .slice P1_4 m1_4 d1_4, .int .i64 q.steps] from Bk.new _ _ _)
  clear h1 h2 h3 h4 hb hbk
  go_upto_region 6 with fail
  generalize w5.heap.size = z1 at HZ1 ⊢
  generalize (w5.alloc (.cells #[.slice P1_1 m1_1 d1_1, .slice P1_2 m1_2 d1_2, .slice P1_3 m1_3 d1_3, .slice P1_4 m1_4 d1_4, .int .i64 q.steps] 47)) = W5 at HB HZ1 HU1_0 HU1_1 HU1_2 HU1_3 HX0 HG0 HX1 HG1 HX2 HG2 ⊢
  have g0 := HX1.out.cell 0
  have g1 := HX1.out.cell 1
  have g2 := HX1.out.cell 2
  have g3 := HX1.out.cell 3
  have g4 := HX1.out.cell 4
  have g5 := HX1.out.cell 5
  have g6 := HX1.out.cell 6
  have g7 := HX1.out.cell 7
  have hbk : Below W5.heap.size W5 (W5.alloc (.cells #[.int .i64 x, .int .i64 y] 3)) := bla (Below.refl _ _) _
  replace HB := Lib.hid (show Below w.heap.size w (W5.alloc (.cells #[.int .i64 x, .int .i64 y] 3)) from blt HB.out hbk)
  replace HX0 := Lib.hid (show Bk (W5.alloc (.cells #[.int .i64 x, .int .i64 y] 3)) b0 28 #[.slice (some ⟨w.heap.size, 0, none⟩) 2 2, .int .i64 5, .int .i64 5, .slice (some ⟨w.heap.size + 1, 0, none⟩) 1 1, .int .i64 0, .slice (some ⟨w1.heap.size + 1 + 1 + 1, 0, none⟩) 3 3, .slice none 0 0, .slice none 0 0] from HX0.out.below hbk)
  replace HG0 := Lib.hid (show GrIn (W5.alloc (.cells #[.int .i64 x, .int .i64 y] 3)) G (.slice (some ⟨w.heap.size, 0, none⟩) 2 2) (.slice (some ⟨w.heap.size + 1, 0, none⟩) 1 1) (.slice (some ⟨w1.heap.size + 1 + 1 + 1, 0, none⟩) 3 3) (.slice none 0 0) (.slice none 0 0) from HG0.out.below hbk)
  replace HX1 := Lib.hid (show Bk (W5.alloc (.cells #[.int .i64 x, .int .i64 y] 3)) b1 28 #[.slice A1_1 n1_1 c1_1, .int .i64 5, .int .i64 5, .slice A1_2 n1_2 c1_2, .int .i64 0, .slice A1_3 n1_3 c1_3, .slice A1_4 n1_4 c1_4, .slice A1_5 n1_5 c1_5] from HX1.out.below hbk)
  replace HG1 := Lib.hid (show GrIn (W5.alloc (.cells #[.int .i64 x, .int .i64 y] 3)) (Fo.gr G) (.slice A1_1 n1_1 c1_1) (.slice A1_2 n1_2 c1_2) (.slice A1_3 n1_3 c1_3) (.slice A1_4 n1_4 c1_4) (.slice A1_5 n1_5 c1_5) from HG1.out.below hbk)
  replace HX2 := Lib.hid (show Bk (W5.alloc (.cells #[.int .i64 x, .int .i64 y] 3)) b2 28 #[.slice A2_1 n2_1 c2_1, .int .i64 5, .int .i64 5, .slice A2_2 n2_2 c2_2, .int .i64 0, .slice A2_3 n2_3 c2_3, .slice A2_4 n2_4 c2_4, .slice A2_5 n2_5 c2_5] from HX2.out.below hbk)
  replace HG2 := Lib.hid (show GrIn (W5.alloc (.cells #[.int .i64 x, .int .i64 y] 3)) (Fo.gr G) (.slice A2_1 n2_1 c2_1) (.slice A2_2 n2_2 c2_2) (.slice A2_3 n2_3 c2_3) (.slice A2_4 n2_4 c2_4) (.slice A2_5 n2_5 c2_5) from HG2.out.below hbk)
  replace HZ1 := Lib.hid (show Bk (W5.alloc (.cells #[.int .i64 x, .int .i64 y] 3)) z1 47 #[.slice P1_1 m1_1 d1_1, .slice P1_2 m1_2 d1_2, .slice P1_3 m1_3 d1_3, .slice P1_4 m1_4 d1_4, .int .i64 q.steps] from HZ1.out.below hbk)
  replace HU1_0 := Lib.hid (show NumsIn (W5.alloc (.cells #[.int .i64 x, .int .i64 y] 3)) (.slice P1_1 m1_1 d1_1) (q.s.vs.take 5) from HU1_0.out.below hbk)
  replace HU1_1 := Lib.hid (show LstsIn (W5.alloc (.cells #[.int .i64 x, .int .i64 y] 3)) (.slice P1_2 m1_2 d1_2) q.s.ars from HU1_1.out.below hbk)
  replace HU1_2 := Lib.hid (show LstsIn (W5.alloc (.cells #[.int .i64 x, .int .i64 y] 3)) (.slice P1_3 m1_3 d1_3) [] from HU1_2.out.below hbk)
  replace HU1_3 := Lib.hid (show NumsIn (W5.alloc (.cells #[.int .i64 x, .int .i64 y] 3)) (.slice P1_4 m1_4 d1_4) q.cnt from HU1_3.out.below hbk)
  have HNm := Lib.hid (show NumsIn (W5.alloc (.cells #[.int .i64 x, .int .i64 y] 3)) (.slice (some ⟨W5.heap.size, 0, none⟩) 2 2) [x, y] from row_bk (Bk.new _ _ _) rfl rfl)
  clear hbk
  go_wp2_with fail
  refine (run5s HQ.out.new HQ.out.ins HW.out.1 HW.out.2 HR.out.2.2.1 q HR.out.2.2.2 _ _ _ _ _ _ _ HG1.out HNm.out).mono ?_
  rintro e w6 ⟨hb, P2_1, m2_1, d2_1, P2_2, m2_2, d2_2, P2_3, m2_3, d2_3, P2_4, m2_4, d2_4, rfl, h1, h2, h3, h4⟩
  clear g0 g1 g2 g3 g4 g5 g6 g7
  clear HNm
  replace HB := Lib.hid (show Below w.heap.size w w6 from blt HB.out hb)
  replace HX0 := Lib.hid (show Bk w6 b0 28 #[.slice (some ⟨w.heap.size, 0, none⟩) 2 2, .int .i64 5, .int .i64 5, .slice (some ⟨w.heap.size + 1, 0, none⟩) 1 1, .int .i64 0, .slice (some ⟨w1.heap.size + 1 + 1 + 1, 0, none⟩) 3 3, .slice none 0 0, .slice none 0 0] from HX0.out.below hb)
  replace HG0 := Lib.hid (show GrIn w6 G (.slice (some ⟨w.heap.size, 0, none⟩) 2 2) (.slice (some ⟨w.heap.size + 1, 0, none⟩) 1 1) (.slice (some ⟨w1.heap.size + 1 + 1 + 1, 0, none⟩) 3 3) (.slice none 0 0) (.slice none 0 0) from HG0.out.below hb)
  replace HX1 := Lib.hid (show Bk w6 b1 28 #[.slice A1_1 n1_1 c1_1, .int .i64 5, .int .i64 5, .slice A1_2 n1_2 c1_2, .int .i64 0, .slice A1_3 n1_3 c1_3, .slice A1_4 n1_4 c1_4, .slice A1_5 n1_5 c1_5] from HX1.out.below hb)
  replace HG1 := Lib.hid (show GrIn w6 (Fo.gr G) (.slice A1_1 n1_1 c1_1) (.slice A1_2 n1_2 c1_2) (.slice A1_3 n1_3 c1_3) (.slice A1_4 n1_4 c1_4) (.slice A1_5 n1_5 c1_5) from HG1.out.below hb)
  replace HX2 := Lib.hid (show Bk w6 b2 28 #[.slice A2_1 n2_1 c2_1, .int .i64 5, .int .i64 5, .slice A2_2 n2_2 c2_2, .int .i64 0, .slice A2_3 n2_3 c2_3, .slice A2_4 n2_4 c2_4, .slice A2_5 n2_5 c2_5] from HX2.out.below hb)
  replace HG2 := Lib.hid (show GrIn w6 (Fo.gr G) (.slice A2_1 n2_1 c2_1) (.slice A2_2 n2_2 c2_2) (.slice A2_3 n2_3 c2_3) (.slice A2_4 n2_4 c2_4) (.slice A2_5 n2_5 c2_5) from HG2.out.below hb)
  replace HZ1 := Lib.hid (show Bk w6 z1 47 #[.slice P1_1 m1_1 d1_1, .slice P1_2 m1_2 d1_2, .slice P1_3 m1_3 d1_3, .slice P1_4 m1_4 d1_4, .int .i64 q.steps] from HZ1.out.below hb)
  replace HU1_0 := Lib.hid (show NumsIn w6 (.slice P1_1 m1_1 d1_1) (q.s.vs.take 5) from HU1_0.out.below hb)
  replace HU1_1 := Lib.hid (show LstsIn w6 (.slice P1_2 m1_2 d1_2) q.s.ars from HU1_1.out.below hb)
  replace HU1_2 := Lib.hid (show LstsIn w6 (.slice P1_3 m1_3 d1_3) [] from HU1_2.out.below hb)
  replace HU1_3 := Lib.hid (show NumsIn w6 (.slice P1_4 m1_4 d1_4) q.cnt from HU1_3.out.below hb)
  have hbk : Below w6.heap.size w6 (w6.alloc (.cells #[.slice P2_1 m2_1 d2_1, .slice P2_2 m2_2 d2_2, .slice P2_3 m2_3 d2_3, .slice P2_4 m2_4 d2_4, .int .i64 q.steps] 47)) := bla (Below.refl _ _) _
  replace HB := Lib.hid (show Below w.heap.size w (w6.alloc (.cells #[.slice P2_1 m2_1 d2_1, .slice P2_2 m2_2 d2_2, .slice P2_3 m2_3 d2_3, .slice P2_4 m2_4 d2_4, .int .i64 q.steps] 47)) from blt HB.out hbk)
  replace HX0 := Lib.hid (show Bk (w6.alloc (.cells #[.slice P2_1 m2_1 d2_1, .slice P2_2 m2_2 d2_2, .slice P2_3 m2_3 d2_3, .slice P2_4 m2_4 d2_4, .int .i64 q.steps] 47)) b0 28 #[.slice (some ⟨w.heap.size, 0, none⟩) 2 2, .int .i64 5, .int .i64 5, .slice (some ⟨w.heap.size + 1, 0, none⟩) 1 1, .int .i64 0, .slice (some ⟨w1.heap.size + 1 + 1 + 1, 0, none⟩) 3 3, .slice none 0 0, .slice none 0 0] from HX0.out.below hbk)
  replace HG0 := Lib.hid (show GrIn (w6.alloc (.cells #[.slice P2_1 m2_1 d2_1, .slice P2_2 m2_2 d2_2, .slice P2_3 m2_3 d2_3, .slice P2_4 m2_4 d2_4, .int .i64 q.steps] 47)) G (.slice (some ⟨w.heap.size, 0, none⟩) 2 2) (.slice (some ⟨w.heap.size + 1, 0, none⟩) 1 1) (.slice (some ⟨w1.heap.size + 1 + 1 + 1, 0, none⟩) 3 3) (.slice none 0 0) (.slice none 0 0) from HG0.out.below hbk)
  replace HX1 := Lib.hid (show Bk (w6.alloc (.cells #[.slice P2_1 m2_1 d2_1, .slice P2_2 m2_2 d2_2, .slice P2_3 m2_3 d2_3, .slice P2_4 m2_4 d2_4, .int .i64 q.steps] 47)) b1 28 #[.slice A1_1 n1_1 c1_1, .int .i64 5, .int .i64 5, .slice A1_2 n1_2 c1_2, .int .i64 0, .slice A1_3 n1_3 c1_3, .slice A1_4 n1_4 c1_4, .slice A1_5 n1_5 c1_5] from HX1.out.below hbk)
  replace HG1 := Lib.hid (show GrIn (w6.alloc (.cells #[.slice P2_1 m2_1 d2_1, .slice P2_2 m2_2 d2_2, .slice P2_3 m2_3 d2_3, .slice P2_4 m2_4 d2_4, .int .i64 q.steps] 47)) (Fo.gr G) (.slice A1_1 n1_1 c1_1) (.slice A1_2 n1_2 c1_2) (.slice A1_3 n1_3 c1_3) (.slice A1_4 n1_4 c1_4) (.slice A1_5 n1_5 c1_5) from HG1.out.below hbk)
  replace HX2 := Lib.hid (show Bk (w6.alloc (.cells #[.slice P2_1 m2_1 d2_1, .slice P2_2 m2_2 d2_2, .slice P2_3 m2_3 d2_3, .slice P2_4 m2_4 d2_4, .int .i64 q.steps] 47)) b2 28 #[.slice A2_1 n2_1 c2_1, .int .i64 5, .int .i64 5, .slice A2_2 n2_2 c2_2, .int .i64 0, .slice A2_3 n2_3 c2_3, .slice A2_4 n2_4 c2_4, .slice A2_5 n2_5 c2_5] from HX2.out.below hbk)
  replace HG2 := Lib.hid (show GrIn (w6.alloc (.cells #[.slice P2_1 m2_1 d2_1, .slice P2_2 m2_2 d2_2, .slice P2_3 m2_3 d2_3, .slice P2_4 m2_4 d2_4, .int .i64 q.steps] 47)) (Fo.gr G) (.slice A2_1 n2_1 c2_1) (.slice A2_2 n2_2 c2_2) (.slice A2_3 n2_3 c2_3) (.slice A2_4 n2_4 c2_4) (.slice A2_5 n2_5 c2_5) from HG2.out.below hbk)
  replace HZ1 := Lib.hid (show Bk (w6.alloc (.cells #[.slice P2_1 m2_1 d2_1, .slice P2_2 m2_2 d2_2, .slice P2_3 m2_3 d2_3, .slice P2_4 m2_4 d2_4, .int .i64 q.steps] 47)) z1 47 #[.slice P1_1 m1_1 d1_1, .slice P1_2 m1_2 d1_2, .slice P1_3 m1_3 d1_3, .slice P1_4 m1_4 d1_4, .int .i64 q.steps] from HZ1.out.below hbk)
  replace HU1_0 := Lib.hid (show NumsIn (w6.alloc (.cells #[.slice P2_1 m2_1 d2_1, .slice P2_2 m2_2 d2_2, .slice P2_3 m2_3 d2_3, .slice P2_4 m2_4 d2_4, .int .i64 q.steps] 47)) (.slice P1_1 m1_1 d1_1) (q.s.vs.take 5) from HU1_0.out.below hbk)
  replace HU1_1 := Lib.hid (show LstsIn (w6.alloc (.cells #[.slice P2_1 m2_1 d2_1, .slice P2_2 m2_2 d2_2, .slice P2_3 m2_3 d2_3, .slice P2_4 m2_4 d2_4, .int .i64 q.steps] 47)) (.slice P1_2 m1_2 d1_2) q.s.ars from HU1_1.out.below hbk)
  replace HU1_2 := Lib.hid (show LstsIn (w6.alloc (.cells #[.slice P2_1 m2_1 d2_1, .slice P2_2 m2_2 d2_2, .slice P2_3 m2_3 d2_3, .slice P2_4 m2_4 d2_4, .int .i64 q.steps] 47)) (.slice P1_3 m1_3 d1_3) [] from HU1_2.out.below hbk)
  replace HU1_3 := Lib.hid (show NumsIn (w6.alloc (.cells #[.slice P2_1 m2_1 d2_1, .slice P2_2 m2_2 d2_2, .slice P2_3 m2_3 d2_3, .slice P2_4 m2_4 d2_4, .int .i64 q.steps] 47)) (.slice P1_4 m1_4 d1_4) q.cnt from HU1_3.out.below hbk)
  have HU2_0 := Lib.hid (show NumsIn (w6.alloc (.cells #[.slice P2_1 m2_1 d2_1, .slice P2_2 m2_2 d2_2, .slice P2_3 m2_3 d2_3, .slice P2_4 m2_4 d2_4, .int .i64 q.steps] 47)) (.slice P2_1 m2_1 d2_1) (q.s.vs.take 5) from h1.below hbk)
  have HU2_1 := Lib.hid (show LstsIn (w6.alloc (.cells #[.slice P2_1 m2_1 d2_1, .slice P2_2 m2_2 d2_2, .slice P2_3 m2_3 d2_3, .slice P2_4 m2_4 d2_4, .int .i64 q.steps] 47)) (.slice P2_2 m2_2 d2_2) q.s.ars from h2.below hbk)
  have HU2_2 := Lib.hid (show LstsIn (w6.alloc (.cells #[.slice P2_1 m2_1 d2_1, .slice P2_2 m2_2 d2_2, .slice P2_3 m2_3 d2_3, .slice P2_4 m2_4 d2_4, .int .i64 q.steps] 47)) (.slice P2_3 m2_3 d2_3) [] from h3.below hbk)
  have HU2_3 := Lib.hid (show NumsIn (w6.alloc (.cells #[.slice P2_1 m2_1 d2_1, .slice P2_2 m2_2 d2_2, .slice P2_3 m2_3 d2_3, .slice P2_4 m2_4 d2_4, .int .i64 q.steps] 47)) (.slice P2_4 m2_4 d2_4) q.cnt from h4.below hbk)
  have HZ2 := Lib.hid (show Bk (w6.alloc (.cells #[.slice P2_1 m2_1 d2_1, .slice P2_2 m2_2 d2_2, .slice P2_3 m2_3 d2_3, .slice P2_4 m2_4 d2_4, .int .i64 q.steps] 47)) w6.heap.size 47 #[.slice P2_1 m2_1 d2_1, .slice P2_2 m2_2 d2_2, .slice P2_3 m2_3 d2_3, .slice P2_4 m2_4 d2_4, .int .i64 q.steps] from Bk.new _ _ _)
  clear h1 h2 h3 h4 hb hbk
  go_upto_region 7 with fail
  generalize w6.heap.size = z2 at HZ2 ⊢
  generalize (w6.alloc (.cells #[.slice P2_1 m2_1 d2_1, .slice P2_2 m2_2 d2_2, .slice P2_3 m2_3 d2_3, .slice P2_4 m2_4 d2_4, .int .i64 q.steps] 47)) = W6 at HB HZ2 HU2_0 HU2_1 HU2_2 HU2_3 HX0 HG0 HX1 HG1 HX2 HG2 HZ1 HU1_0 HU1_1 HU1_2 HU1_3 ⊢
  have g0 := HX0.out.cell 0
  have g1 := HX0.out.cell 1
  have g2 := HX0.out.cell 2
  have g3 := HX0.out.cell 3
  have g4 := HX0.out.cell 4
  have g5 := HX0.out.cell 5
  have g6 := HX0.out.cell 6
  have g7 := HX0.out.cell 7
  go_wp2_with fail
  refine (agree5 HQ.out.old _ _ _ _ _ W6 HG0.out).mono ?_
  rintro e w7 ⟨rfl, hb⟩
  clear g0 g1 g2 g3 g4 g5 g6 g7
  replace HB := Lib.hid (show Below w.heap.size w w7 from blt HB.out hb)
  replace HX0 := Lib.hid (show Bk w7 b0 28 #[.slice (some ⟨w.heap.size, 0, none⟩) 2 2, .int .i64 5, .int .i64 5, .slice (some ⟨w.heap.size + 1, 0, none⟩) 1 1, .int .i64 0, .slice (some ⟨w1.heap.size + 1 + 1 + 1, 0, none⟩) 3 3, .slice none 0 0, .slice none 0 0] from HX0.out.below hb)
  replace HG0 := Lib.hid (show GrIn w7 G (.slice (some ⟨w.heap.size, 0, none⟩) 2 2) (.slice (some ⟨w.heap.size + 1, 0, none⟩) 1 1) (.slice (some ⟨w1.heap.size + 1 + 1 + 1, 0, none⟩) 3 3) (.slice none 0 0) (.slice none 0 0) from HG0.out.below hb)
  replace HX1 := Lib.hid (show Bk w7 b1 28 #[.slice A1_1 n1_1 c1_1, .int .i64 5, .int .i64 5, .slice A1_2 n1_2 c1_2, .int .i64 0, .slice A1_3 n1_3 c1_3, .slice A1_4 n1_4 c1_4, .slice A1_5 n1_5 c1_5] from HX1.out.below hb)
  replace HG1 := Lib.hid (show GrIn w7 (Fo.gr G) (.slice A1_1 n1_1 c1_1) (.slice A1_2 n1_2 c1_2) (.slice A1_3 n1_3 c1_3) (.slice A1_4 n1_4 c1_4) (.slice A1_5 n1_5 c1_5) from HG1.out.below hb)
  replace HX2 := Lib.hid (show Bk w7 b2 28 #[.slice A2_1 n2_1 c2_1, .int .i64 5, .int .i64 5, .slice A2_2 n2_2 c2_2, .int .i64 0, .slice A2_3 n2_3 c2_3, .slice A2_4 n2_4 c2_4, .slice A2_5 n2_5 c2_5] from HX2.out.below hb)
  replace HG2 := Lib.hid (show GrIn w7 (Fo.gr G) (.slice A2_1 n2_1 c2_1) (.slice A2_2 n2_2 c2_2) (.slice A2_3 n2_3 c2_3) (.slice A2_4 n2_4 c2_4) (.slice A2_5 n2_5 c2_5) from HG2.out.below hb)
  replace HZ1 := Lib.hid (show Bk w7 z1 47 #[.slice P1_1 m1_1 d1_1, .slice P1_2 m1_2 d1_2, .slice P1_3 m1_3 d1_3, .slice P1_4 m1_4 d1_4, .int .i64 q.steps] from HZ1.out.below hb)
  replace HU1_0 := Lib.hid (show NumsIn w7 (.slice P1_1 m1_1 d1_1) (q.s.vs.take 5) from HU1_0.out.below hb)
  replace HU1_1 := Lib.hid (show LstsIn w7 (.slice P1_2 m1_2 d1_2) q.s.ars from HU1_1.out.below hb)
  replace HU1_2 := Lib.hid (show LstsIn w7 (.slice P1_3 m1_3 d1_3) [] from HU1_2.out.below hb)
  replace HU1_3 := Lib.hid (show NumsIn w7 (.slice P1_4 m1_4 d1_4) q.cnt from HU1_3.out.below hb)
  replace HZ2 := Lib.hid (show Bk w7 z2 47 #[.slice P2_1 m2_1 d2_1, .slice P2_2 m2_2 d2_2, .slice P2_3 m2_3 d2_3, .slice P2_4 m2_4 d2_4, .int .i64 q.steps] from HZ2.out.below hb)
  replace HU2_0 := Lib.hid (show NumsIn w7 (.slice P2_1 m2_1 d2_1) (q.s.vs.take 5) from HU2_0.out.below hb)
  replace HU2_1 := Lib.hid (show LstsIn w7 (.slice P2_2 m2_2 d2_2) q.s.ars from HU2_1.out.below hb)
  replace HU2_2 := Lib.hid (show LstsIn w7 (.slice P2_3 m2_3 d2_3) [] from HU2_2.out.below hb)
  replace HU2_3 := Lib.hid (show NumsIn w7 (.slice P2_4 m2_4 d2_4) q.cnt from HU2_3.out.below hb)
  clear hb
  have g0 := HZ1.out.cell 0
  have g1 := HZ1.out.cell 1
  have g2 := HZ1.out.cell 2
  have g3 := HZ1.out.cell 3
  have g4 := HZ1.out.cell 4
  have h0 := HZ2.out.cell 0
  have h1 := HZ2.out.cell 1
  have h2 := HZ2.out.cell 2
  have h3 := HZ2.out.cell 3
  have h4 := HZ2.out.cell 4
  go_wp2_with fail
  refine (rsame_any (q.s.vs.take 5) q.cnt q.s.ars [] q.steps _ _ _ _ _ _ _ _ w7 HU1_0.out HU1_1.out HU1_2.out HU1_3.out HU2_0.out HU2_1.out HU2_2.out HU2_3.out (by have := List.length_take_le 5 q.s.vs; unfold maxLen; omega) HQ.out.fin.cnt HQ.out.fin.ars ⟨by unfold maxLen; simp, fun a ha => by cases ha⟩).mono ?_
  rintro e w8 ⟨rfl, hb⟩
  clear g0 g1 g2 g3 g4
  clear h0 h1 h2 h3 h4
  replace HB := Lib.hid (show Below w.heap.size w w8 from blt HB.out hb)
  replace HX0 := Lib.hid (show Bk w8 b0 28 #[.slice (some ⟨w.heap.size, 0, none⟩) 2 2, .int .i64 5, .int .i64 5, .slice (some ⟨w.heap.size + 1, 0, none⟩) 1 1, .int .i64 0, .slice (some ⟨w1.heap.size + 1 + 1 + 1, 0, none⟩) 3 3, .slice none 0 0, .slice none 0 0] from HX0.out.below hb)
  replace HG0 := Lib.hid (show GrIn w8 G (.slice (some ⟨w.heap.size, 0, none⟩) 2 2) (.slice (some ⟨w.heap.size + 1, 0, none⟩) 1 1) (.slice (some ⟨w1.heap.size + 1 + 1 + 1, 0, none⟩) 3 3) (.slice none 0 0) (.slice none 0 0) from HG0.out.below hb)
  replace HX1 := Lib.hid (show Bk w8 b1 28 #[.slice A1_1 n1_1 c1_1, .int .i64 5, .int .i64 5, .slice A1_2 n1_2 c1_2, .int .i64 0, .slice A1_3 n1_3 c1_3, .slice A1_4 n1_4 c1_4, .slice A1_5 n1_5 c1_5] from HX1.out.below hb)
  replace HG1 := Lib.hid (show GrIn w8 (Fo.gr G) (.slice A1_1 n1_1 c1_1) (.slice A1_2 n1_2 c1_2) (.slice A1_3 n1_3 c1_3) (.slice A1_4 n1_4 c1_4) (.slice A1_5 n1_5 c1_5) from HG1.out.below hb)
  replace HX2 := Lib.hid (show Bk w8 b2 28 #[.slice A2_1 n2_1 c2_1, .int .i64 5, .int .i64 5, .slice A2_2 n2_2 c2_2, .int .i64 0, .slice A2_3 n2_3 c2_3, .slice A2_4 n2_4 c2_4, .slice A2_5 n2_5 c2_5] from HX2.out.below hb)
  replace HG2 := Lib.hid (show GrIn w8 (Fo.gr G) (.slice A2_1 n2_1 c2_1) (.slice A2_2 n2_2 c2_2) (.slice A2_3 n2_3 c2_3) (.slice A2_4 n2_4 c2_4) (.slice A2_5 n2_5 c2_5) from HG2.out.below hb)
  replace HZ1 := Lib.hid (show Bk w8 z1 47 #[.slice P1_1 m1_1 d1_1, .slice P1_2 m1_2 d1_2, .slice P1_3 m1_3 d1_3, .slice P1_4 m1_4 d1_4, .int .i64 q.steps] from HZ1.out.below hb)
  replace HU1_0 := Lib.hid (show NumsIn w8 (.slice P1_1 m1_1 d1_1) (q.s.vs.take 5) from HU1_0.out.below hb)
  replace HU1_1 := Lib.hid (show LstsIn w8 (.slice P1_2 m1_2 d1_2) q.s.ars from HU1_1.out.below hb)
  replace HU1_2 := Lib.hid (show LstsIn w8 (.slice P1_3 m1_3 d1_3) [] from HU1_2.out.below hb)
  replace HU1_3 := Lib.hid (show NumsIn w8 (.slice P1_4 m1_4 d1_4) q.cnt from HU1_3.out.below hb)
  replace HZ2 := Lib.hid (show Bk w8 z2 47 #[.slice P2_1 m2_1 d2_1, .slice P2_2 m2_2 d2_2, .slice P2_3 m2_3 d2_3, .slice P2_4 m2_4 d2_4, .int .i64 q.steps] from HZ2.out.below hb)
  replace HU2_0 := Lib.hid (show NumsIn w8 (.slice P2_1 m2_1 d2_1) (q.s.vs.take 5) from HU2_0.out.below hb)
  replace HU2_1 := Lib.hid (show LstsIn w8 (.slice P2_2 m2_2 d2_2) q.s.ars from HU2_1.out.below hb)
  replace HU2_2 := Lib.hid (show LstsIn w8 (.slice P2_3 m2_3 d2_3) [] from HU2_2.out.below hb)
  replace HU2_3 := Lib.hid (show NumsIn w8 (.slice P2_4 m2_4 d2_4) q.cnt from HU2_3.out.below hb)
  clear hb
  have g0 := HX1.out.cell 0
  have g1 := HX1.out.cell 1
  have g2 := HX1.out.cell 2
  have g3 := HX1.out.cell 3
  have g4 := HX1.out.cell 4
  have g5 := HX1.out.cell 5
  have g6 := HX1.out.cell 6
  have g7 := HX1.out.cell 7
  have h0 := HX2.out.cell 0
  have h1 := HX2.out.cell 1
  have h2 := HX2.out.cell 2
  have h3 := HX2.out.cell 3
  have h4 := HX2.out.cell 4
  have h5 := HX2.out.cell 5
  have h6 := HX2.out.cell 6
  have h7 := HX2.out.cell 7
  go_wp2_with fail
  refine (same5 HQ.out.new _ _ _ _ _ _ _ _ _ _ w8 HG1.out HG2.out).mono ?_
  rintro e w9 ⟨rfl, hb⟩
  clear g0 g1 g2 g3 g4 g5 g6 g7
  clear h0 h1 h2 h3 h4 h5 h6 h7
  have HBe := Lib.hid (blt HB.out hb)
  clear hb HB HX0 HG0 HX1 HG1 HX2 HG2 HZ1 HU1_0 HU1_1 HU1_2 HU1_3 HZ2 HU2_0 HU2_1 HU2_2 HU2_3
  go_wp2_with fail
  refine (awake_any w9).mono ?_
  rintro e w10 ⟨rfl, hb⟩
  have HBf := Lib.hid (blt HBe.out hb)
  clear hb HBe
  go_wp2
  go_ret
  exact ⟨rfl, HBf.out⟩
end Go.Proofs.YtojflhkmonicoaaGreat
