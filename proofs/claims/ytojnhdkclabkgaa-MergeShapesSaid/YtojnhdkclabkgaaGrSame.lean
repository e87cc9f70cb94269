/- The specification of layer 12: two readings of one graph are the same. No condition. -/
import Derived.Test.YtojnhdkclabkgaaGrMem
import Derived.RegionTactic
import Derived.ChangeAlike
import Derived.BigRegion
import Derived.Deep.CutRange
import Derived.Deep.DeepCutAuto
import Derived.Deep.CutBlock
namespace Go.Proofs.Ytojnhdkclabkgaa
open Go.RowKit
set_option linter.unusedVariables false
set_option linter.unusedSimpArgs false
attribute [local go_sem] y_undef
set_option maxHeartbeats 4000000 in
theorem sameints_any (l : List Int) (v v' : Value) (w : World) (hv : NumsIn w v l) (hv' : NumsIn w v' l) (hm : l.length ≤ maxLen) :
    Calls Try.prog 60 #[v, v'] w fun e w' => e = .returned (.bool true) ∧ Below w.heap.size w w' := by
  obtain ⟨A, c, rfl, ho⟩ := hv.opened
  obtain ⟨B, d, rfl, ho'⟩ := hv'.opened
  have HO := Lib.hid ho
  have HO' := Lib.hid ho'
  unfold maxLen at hm
  clear hv hv' ho ho'
  obtain ⟨n, hn⟩ : ∃ n, l.length = n := ⟨_, rfl⟩
  rw [hn] at hm HO HO' ⊢
  clear hn
  go_enter Try.func60, Try.ntmps60
  go_wp2
  go_loopw [5] (fun i wr => ∃ k : Nat, k ≤ n ∧ i = .int .i64 k ∧ Hid (Below w.heap.size w wr)) (fun i _ => n - (intOf i).toNat)
  case atStart => exact ⟨0, Nat.zero_le _, rfl, Lib.hid (Below.refl _ _)⟩
  case round =>
    obtain ⟨k, hk, rfl, HK⟩ := hrel
    by_cases hlt : k < n
    · have hlt' : (k : Int) < n := by omega
      obtain ⟨b, off, rfl, hbb, hx⟩ := HO.out k hlt
      obtain ⟨b', off', rfl, hbb', hx'⟩ := HO'.out k hlt
      replace hx := (HK.out.cell (p := ⟨b, off + k, none⟩) hbb).trans hx
      replace hx' := (HK.out.cell (p := ⟨b', off' + k, none⟩) hbb').trans hx'
      generalize l.getD k 0 = x at *
      go_wp2
      go_quiet (fail)
      go_wp2
      go_roundw
      case rel => exact ⟨k + 1, by omega, by first | rfl | go_num, Lib.hid (HK.out.trans (below_drewN _ _ _))⟩
      case measure => simp [intOf]; omega
    · have hlt' : ¬ (k : Int) < n := by omega
      go_wp2
      go_ret
      exact ⟨rfl, HK.out⟩
set_option maxHeartbeats 4000000 in
theorem samelists_any (l : List (List Int)) (v v' : Value) (w : World) (hv : LstsIn w v l) (hv' : LstsIn w v' l) (hm : l.length ≤ maxLen) (hm2 : ∀ q ∈ l, q.length ≤ maxLen) :
    Calls Try.prog 32 #[v, v'] w fun e w' => e = .returned (.bool true) ∧ Below w.heap.size w w' := by
  obtain ⟨A, c, rfl, ho⟩ := hv
  obtain ⟨B, d, rfl, ho'⟩ := hv'
  have HO := Lib.hid ho
  have HO' := Lib.hid ho'
  have HM2 := Lib.hid fun k (hk : k < l.length) => hm2 (l.getD k []) (by simp [List.getD, List.getElem?_eq_getElem hk])
  unfold maxLen at hm
  clear ho ho' hm2
  obtain ⟨n, hn⟩ : ∃ n, l.length = n := ⟨_, rfl⟩
  rw [hn] at hm HO HO' HM2 ⊢
  clear hn
  go_enter Try.func32, Try.ntmps32
  go_wp2
  go_loopw [5] (fun i wr => ∃ k : Nat, k ≤ n ∧ i = .int .i64 k ∧ Hid (Below w.heap.size w wr)) (fun i _ => n - (intOf i).toNat)
  case atStart => exact ⟨0, Nat.zero_le _, rfl, Lib.hid (Below.refl _ _)⟩
  case round =>
    obtain ⟨k, hk, rfl, HK⟩ := hrel
    by_cases hlt : k < n
    · have hlt' : (k : Int) < n := by omega
      obtain ⟨b, off, u, rfl, hbb, hx, hq⟩ := HO.out k hlt
      obtain ⟨b', off', u', rfl, hbb', hx', hq'⟩ := HO'.out k hlt
      replace hx := (HK.out.cell (p := ⟨b, off + k, none⟩) hbb).trans hx
      replace hx' := (HK.out.cell (p := ⟨b', off' + k, none⟩) hbb').trans hx'
      have hsz := HK.out.size
      have HD := Lib.hid (show Below w.heap.size w wr.drew from HK.out.trans (below_drewN _ _ 1))
      have HQ := Lib.hid (And.intro (hq.below HD.out) (hq'.below HD.out))
      have HM := Lib.hid (HM2.out k hlt)
      obtain ⟨C, e, rfl, _⟩ := hq.opened
      obtain ⟨C', e', rfl, _⟩ := hq'.opened
      clear hq hq'
      generalize l.getD k [] = q at *
      have x1 : wr.drew.cell? ⟨b, off + k, none⟩ = some (.slice C q.length e) := hx
      have x2 : wr.drew.cell? ⟨b', off' + k, none⟩ = some (.slice C' q.length e') := hx'
      have hlb : b < wr.drew.heap.size := by simp; omega
      have hlb' : b' < wr.drew.heap.size := by simp; omega
      go_wp2_with fail
      go_region_held3 (fun w' => w'.cell? ⟨b, off + k, none⟩ = some (.slice C q.length e) ∧ w'.cell? ⟨b', off' + k, none⟩ = some (.slice C' q.length e'))
        (first | (with_reducible assumption) | exact ⟨x1, x2⟩ | exact z)
        (first | (go_at_call 60; refine (sameints_any q _ _ _ HQ.out.1 HQ.out.2 HM.out).mono ?_; rintro e w1 ⟨rfl, hb⟩; have HF := Lib.hid (HD.out.trans (hb.mono HD.out.size)); have z := And.intro ((hb.cell (p := ⟨b, off + k, none⟩) hlb).trans x1) ((hb.cell (p := ⟨b', off' + k, none⟩) hlb').trans x2); clear hb))
      go_wp2
      go_roundw
      case rel => exact ⟨k + 1, by omega, by first | rfl | go_num, by first | exact HF | exact Lib.hid (HF.out.trans (below_drewN _ _ _))⟩
      case measure => simp [intOf]; omega
    · have hlt' : ¬ (k : Int) < n := by omega
      go_wp2
      go_ret
      exact ⟨rfl, HK.out⟩
/-- The boxes of both graphs. -/
def G2 (w : World) (ga gb : Array Value) (u : World) : Prop := Below w.heap.size w u ∧ Bk u w.heap.size 40 ga ∧ Bk u (w.heap.size + 1) 40 gb
theorem G2.below {w u u' : World} {ga gb : Array Value} (h : G2 w ga gb u) (hb : Below u.heap.size u u') : G2 w ga gb u' := ⟨blt h.1 hb, h.2.1.below hb, h.2.2.below hb⟩
theorem g2_new (w : World) (ga gb : Array Value) : G2 w ga gb ((w.alloc (.cells ga 40)).alloc (.cells gb 40)) := by
  refine ⟨bla (bla (Below.refl _ _) _) _, (Bk.new w _ _).below (bla (Below.refl _ _) _), ?_⟩
  have := Bk.new (w.alloc (.cells ga 40)) 40 gb
  rw [size_alloc] at this
  exact this
theorem g2c {w u : World} {x0 x1 x2 x3 x4 x5 x6 x7 y0 y1 y2 y3 y4 y5 y6 y7 : Value} (h : G2 w #[x0, x1, x2, x3, x4, x5, x6, x7] #[y0, y1, y2, y3, y4, y5, y6, y7] u) : u.cell? ⟨w.heap.size, 0, none⟩ = some x0 ∧ u.cell? ⟨w.heap.size, 1, none⟩ = some x1 ∧ u.cell? ⟨w.heap.size, 2, none⟩ = some x2 ∧ u.cell? ⟨w.heap.size, 3, none⟩ = some x3 ∧ u.cell? ⟨w.heap.size, 4, none⟩ = some x4 ∧ u.cell? ⟨w.heap.size, 5, none⟩ = some x5 ∧ u.cell? ⟨w.heap.size, 6, none⟩ = some x6 ∧ u.cell? ⟨w.heap.size, 7, none⟩ = some x7 ∧ u.cell? ⟨w.heap.size + 1, 0, none⟩ = some y0 ∧ u.cell? ⟨w.heap.size + 1, 1, none⟩ = some y1 ∧ u.cell? ⟨w.heap.size + 1, 2, none⟩ = some y2 ∧ u.cell? ⟨w.heap.size + 1, 3, none⟩ = some y3 ∧ u.cell? ⟨w.heap.size + 1, 4, none⟩ = some y4 ∧ u.cell? ⟨w.heap.size + 1, 5, none⟩ = some y5 ∧ u.cell? ⟨w.heap.size + 1, 6, none⟩ = some y6 ∧ u.cell? ⟨w.heap.size + 1, 7, none⟩ = some y7 :=
  ⟨h.2.1.cell 0, h.2.1.cell 1, h.2.1.cell 2, h.2.1.cell 3, h.2.1.cell 4, h.2.1.cell 5, h.2.1.cell 6, h.2.1.cell 7, h.2.2.cell 0, h.2.2.cell 1, h.2.2.cell 2, h.2.2.cell 3, h.2.2.cell 4, h.2.2.cell 5, h.2.2.cell 6, h.2.2.cell 7⟩
/-- And those of two blocks. -/
def B2 (w : World) (ga gb : Array Value) (p q : Nat) (x y : Array Value) (u : World) : Prop := G2 w ga gb u ∧ Bk u p 34 x ∧ Bk u q 34 y
theorem B2.below {w u u' : World} {ga gb x y : Array Value} {p q : Nat} (h : B2 w ga gb p q x y u) (hb : Below u.heap.size u u') : B2 w ga gb p q x y u' := ⟨h.1.below hb, h.2.1.below hb, h.2.2.below hb⟩
theorem b2_new1 {w wr : World} {ga gb x y : Array Value} (h : G2 w ga gb wr) : B2 w ga gb wr.heap.size (wr.heap.size + 1) x y ((wr.alloc (.cells x 34)).alloc (.cells y 34)).drew := by
  have hb : Below wr.heap.size wr ((wr.alloc (.cells x 34)).alloc (.cells y 34)) := bla (bla (Below.refl _ _) _) _
  have hx := (Bk.new wr 34 x).below (bla (Below.refl _ _) (.cells y 34))
  have hy := Bk.new (wr.alloc (.cells x 34)) 34 y
  rw [size_alloc] at hy
  exact B2.below ⟨h.below hb, hx, hy⟩ (below_drewN _ _ 1)
theorem b2_new2 {w wr : World} {ga gb x y : Array Value} (h : G2 w ga gb wr) : B2 w ga gb (wr.heap.size + 1) wr.heap.size x y ((wr.alloc (.cells y 34)).alloc (.cells x 34)).drew := by
  have hb : Below wr.heap.size wr ((wr.alloc (.cells y 34)).alloc (.cells x 34)) := bla (bla (Below.refl _ _) _) _
  have hy := (Bk.new wr 34 y).below (bla (Below.refl _ _) (.cells x 34))
  have hx := Bk.new (wr.alloc (.cells y 34)) 34 x
  rw [size_alloc] at hx
  exact B2.below ⟨h.below hb, hx, hy⟩ (below_drewN _ _ 1)
set_option maxRecDepth 100000 in
set_option maxHeartbeats 16000000 in
theorem same_any (g : Gr.G) (vi va vb vp vh vi' va' vb' vp' vh' : Value) (w : World) (hi : GrIn w g vi va vb vp vh) (hi' : GrIn w g vi' va' vb' vp' vh') (hf : Gr.Fit g) :
    Calls Try.prog 31 #[.agg #[vi, .int .i64 g.vars, .int .i64 g.keep, va, .int .i64 g.sh, vb, vp, vh], .agg #[vi', .int .i64 g.vars, .int .i64 g.keep, va', .int .i64 g.sh, vb', vp', vh']] w fun e w' => e = .returned (.bool true) ∧ Below w.heap.size w w' := by
  have HS := Lib.hid fun (W : World) (hW : Below w.heap.size w W) => samelists_any g.pts vp vp' W (hi.pts.below hW) (hi'.pts.below hW) (Gr.le_max hf.pts) (fun q hq => Gr.le_max (hf.pt q hq))
  obtain ⟨Ai, ci, rfl, hin⟩ := hi.ins.opened
  obtain ⟨Aa, ca, rfl, har⟩ := hi.ars.opened
  obtain ⟨Ab, cb, a1, a2, c1, c2, rfl, hbl⟩ := id hi.blks
  obtain ⟨Ap, cp, -, -, rfl, -⟩ := hi.pts.opened
  obtain ⟨Ah, ch, rfl, hhd⟩ := hi.hds.opened
  obtain ⟨Ai', ci', rfl, hin'⟩ := hi'.ins.opened
  obtain ⟨Aa', ca', rfl, har'⟩ := hi'.ars.opened
  obtain ⟨Ab', cb', a1', a2', c1', c2', rfl, hbl'⟩ := id hi'.blks
  obtain ⟨Ap', cp', -, -, rfl, -⟩ := hi'.pts.opened
  obtain ⟨Ah', ch', rfl, hhd'⟩ := hi'.hds.opened
  have HIn := Lib.hid (And.intro hin hin')
  have HAr := Lib.hid (And.intro har har')
  have HBl := Lib.hid (And.intro hbl hbl')
  have HHd := Lib.hid (And.intro hhd hhd')
  obtain ⟨ni, hni⟩ : ∃ n, g.ins.length = n := ⟨_, rfl⟩
  obtain ⟨na, hna⟩ : ∃ n, g.ars.length = n := ⟨_, rfl⟩
  obtain ⟨nb, hnb⟩ : ∃ n, g.blks.length = n := ⟨_, rfl⟩
  obtain ⟨np, hnp⟩ : ∃ n, g.pts.length = n := ⟨_, rfl⟩
  obtain ⟨nh, hnh⟩ : ∃ n, g.hds.length = n := ⟨_, rfl⟩
  obtain ⟨V, hV⟩ : ∃ n, g.vars = n := ⟨_, rfl⟩
  obtain ⟨K, hK⟩ : ∃ n, g.keep = n := ⟨_, rfl⟩
  obtain ⟨S, hS⟩ : ∃ n, g.sh = n := ⟨_, rfl⟩
  have b1 := hf.ins
  have b2 := hf.ars
  have b3 := hf.blks
  have b4 := hf.pts
  have b5 := hf.hds
  rw [hni] at b1 HIn
  rw [hna] at b2 HAr
  rw [hnb] at b3 HBl
  rw [hnp] at b4 HS
  rw [hnh] at b5 HHd
  rw [hni, hna, hnb, hnp, hnh, hV, hK, hS]
  have HNb := Lib.hid hnb
  have HT0 := Lib.hid (g2_new w #[.slice Ai ni ci, .int .i64 V, .int .i64 K, .slice Aa na ca, .int .i64 S, .slice Ab nb cb, .slice Ap np cp, .slice Ah nh ch] #[.slice Ai' ni ci', .int .i64 V, .int .i64 K, .slice Aa' na ca', .int .i64 S, .slice Ab' nb cb', .slice Ap' np cp', .slice Ah' nh ch'])
  clear hi hi' hin hin' har har' hbl hbl' hhd hhd' hni hna hnb hnp hnh hV hK hS
  go_enter Try.func31, Try.ntmps31
  go_wp2_with fail
  refine (HS.out _ HT0.out.1).mono ?_
  rintro e w1 ⟨rfl, hb1⟩
  have HT := Lib.hid (HT0.out.below hb1)
  clear hb1 HS HT0
  obtain ⟨x0, x1, x2, x3, x4, x5, x6, x7, y0, y1, y2, y3, y4, y5, y6, y7⟩ := g2c HT.out
  go_wp2
  clear x0 x1 x2 x3 x4 x5 x6 x7 y0 y1 y2 y3 y4 y5 y6 y7
  go_loopw [5] (fun i wr => ∃ k : Nat, k ≤ ni ∧ i = .int .i64 k ∧ Hid (G2 w #[.slice Ai ni ci, .int .i64 V, .int .i64 K, .slice Aa na ca, .int .i64 S, .slice Ab nb cb, .slice Ap np cp, .slice Ah nh ch] #[.slice Ai' ni ci', .int .i64 V, .int .i64 K, .slice Aa' na ca', .int .i64 S, .slice Ab' nb cb', .slice Ap' np cp', .slice Ah' nh ch'] wr)) (fun i _ => ni - (intOf i).toNat)
  case atStart => exact ⟨0, Nat.zero_le _, rfl, HT⟩
  case round =>
    clear HT
    obtain ⟨k, hk, rfl, HT⟩ := hrel
    obtain ⟨x0, x1, x2, x3, x4, x5, x6, x7, y0, y1, y2, y3, y4, y5, y6, y7⟩ := g2c HT.out
    by_cases hlt : k < ni
    · have hlt' : (k : Int) < ni := by omega
      have hlt0 : (0 : Int) ≤ (k : Int) := by omega
      obtain ⟨b, off, rfl, hbb, h0, h1, h2⟩ := HIn.out.1 k hlt
      obtain ⟨b', off', rfl, hbb', h0', h1', h2'⟩ := HIn.out.2 k hlt
      replace h0 := (HT.out.1.cell (p := ⟨b, off + k * 3, none⟩) hbb).trans h0
      replace h0' := (HT.out.1.cell (p := ⟨b', off' + k * 3, none⟩) hbb').trans h0'
      replace h1 := (HT.out.1.cell (p := ⟨b, off + k * 3 + 1, none⟩) hbb).trans h1
      replace h1' := (HT.out.1.cell (p := ⟨b', off' + k * 3 + 1, none⟩) hbb').trans h1'
      replace h2 := (HT.out.1.cell (p := ⟨b, off + k * 3 + 2, none⟩) hbb).trans h2
      replace h2' := (HT.out.1.cell (p := ⟨b', off' + k * 3 + 2, none⟩) hbb').trans h2'
      generalize (g.ins.getD k Gr.in0).1 = z0 at *
      generalize (g.ins.getD k Gr.in0).2.1 = z1 at *
      generalize (g.ins.getD k Gr.in0).2.2 = z2 at *
      go_wp2
      go_quiet (fail)
      go_wp2
      go_roundw
      case rel => exact ⟨k + 1, by omega, by first | rfl | go_num, Lib.hid (HT.out.below (below_drewN _ _ _))⟩
      case measure => simp [intOf]; omega
    · have hlt' : ¬ (k : Int) < ni := by omega
      go_wp2
      clear x0 x1 x2 x3 x4 x5 x6 x7 y0 y1 y2 y3 y4 y5 y6 y7
      go_loopw [6] (fun i wr => ∃ k : Nat, k ≤ na ∧ i = .int .i64 k ∧ Hid (G2 w #[.slice Ai ni ci, .int .i64 V, .int .i64 K, .slice Aa na ca, .int .i64 S, .slice Ab nb cb, .slice Ap np cp, .slice Ah nh ch] #[.slice Ai' ni ci', .int .i64 V, .int .i64 K, .slice Aa' na ca', .int .i64 S, .slice Ab' nb cb', .slice Ap' np cp', .slice Ah' nh ch'] wr)) (fun i _ => na - (intOf i).toNat)
      case atStart => exact ⟨0, Nat.zero_le _, rfl, HT⟩
      case round =>
        clear HT
        obtain ⟨k, hk, rfl, HT⟩ := hrel
        obtain ⟨x0, x1, x2, x3, x4, x5, x6, x7, y0, y1, y2, y3, y4, y5, y6, y7⟩ := g2c HT.out
        by_cases hlt : k < na
        · have hlt' : (k : Int) < na := by omega
          have hlt0 : (0 : Int) ≤ (k : Int) := by omega
          obtain ⟨b, off, rfl, hbb, h0, h1⟩ := HAr.out.1 k hlt
          obtain ⟨b', off', rfl, hbb', h0', h1'⟩ := HAr.out.2 k hlt
          replace h0 := (HT.out.1.cell (p := ⟨b, off + k * 2, none⟩) hbb).trans h0
          replace h0' := (HT.out.1.cell (p := ⟨b', off' + k * 2, none⟩) hbb').trans h0'
          replace h1 := (HT.out.1.cell (p := ⟨b, off + k * 2 + 1, none⟩) hbb).trans h1
          replace h1' := (HT.out.1.cell (p := ⟨b', off' + k * 2 + 1, none⟩) hbb').trans h1'
          generalize (g.ars.getD k Gr.ar0).1 = z0 at *
          generalize (g.ars.getD k Gr.ar0).2 = z1 at *
          go_wp2
          go_quiet (fail)
          go_wp2
          go_roundw
          case rel => exact ⟨k + 1, by omega, by first | rfl | go_num, Lib.hid (HT.out.below (below_drewN _ _ _))⟩
          case measure => simp [intOf]; omega
        · have hlt' : ¬ (k : Int) < na := by omega
          go_wp2
          clear x0 x1 x2 x3 x4 x5 x6 x7 y0 y1 y2 y3 y4 y5 y6 y7
          go_loopw [7] (fun i wr => ∃ k : Nat, k ≤ nh ∧ i = .int .i64 k ∧ Hid (G2 w #[.slice Ai ni ci, .int .i64 V, .int .i64 K, .slice Aa na ca, .int .i64 S, .slice Ab nb cb, .slice Ap np cp, .slice Ah nh ch] #[.slice Ai' ni ci', .int .i64 V, .int .i64 K, .slice Aa' na ca', .int .i64 S, .slice Ab' nb cb', .slice Ap' np cp', .slice Ah' nh ch'] wr)) (fun i _ => nh - (intOf i).toNat)
          case atStart => exact ⟨0, Nat.zero_le _, rfl, HT⟩
          case round =>
            clear HT
            obtain ⟨k, hk, rfl, HT⟩ := hrel
            obtain ⟨x0, x1, x2, x3, x4, x5, x6, x7, y0, y1, y2, y3, y4, y5, y6, y7⟩ := g2c HT.out
            by_cases hlt : k < nh
            · have hlt' : (k : Int) < nh := by omega
              have hlt0 : (0 : Int) ≤ (k : Int) := by omega
              obtain ⟨b, off, rfl, hbb, h0, h1⟩ := HHd.out.1 k hlt
              obtain ⟨b', off', rfl, hbb', h0', h1'⟩ := HHd.out.2 k hlt
              replace h0 := (HT.out.1.cell (p := ⟨b, off + k * 2, none⟩) hbb).trans h0
              replace h0' := (HT.out.1.cell (p := ⟨b', off' + k * 2, none⟩) hbb').trans h0'
              replace h1 := (HT.out.1.cell (p := ⟨b, off + k * 2 + 1, none⟩) hbb).trans h1
              replace h1' := (HT.out.1.cell (p := ⟨b', off' + k * 2 + 1, none⟩) hbb').trans h1'
              generalize (g.hds.getD k (0, 0)).1 = z0 at *
              generalize (g.hds.getD k (0, 0)).2 = z1 at *
              go_wp2
              go_quiet (fail)
              go_wp2
              go_roundw
              case rel => exact ⟨k + 1, by omega, by first | rfl | go_num, Lib.hid (HT.out.below (below_drewN _ _ _))⟩
              case measure => simp [intOf]; omega
            · have hlt' : ¬ (k : Int) < nh := by omega
              go_wp2
              clear x0 x1 x2 x3 x4 x5 x6 x7 y0 y1 y2 y3 y4 y5 y6 y7
              go_loopw [8] (fun i wr => ∃ k : Nat, k ≤ nb ∧ i = .int .i64 k ∧ Hid (G2 w #[.slice Ai ni ci, .int .i64 V, .int .i64 K, .slice Aa na ca, .int .i64 S, .slice Ab nb cb, .slice Ap np cp, .slice Ah nh ch] #[.slice Ai' ni ci', .int .i64 V, .int .i64 K, .slice Aa' na ca', .int .i64 S, .slice Ab' nb cb', .slice Ap' np cp', .slice Ah' nh ch'] wr)) (fun i _ => nb - (intOf i).toNat)
              case atStart => exact ⟨0, Nat.zero_le _, rfl, HT⟩
              case round =>
                clear HT
                obtain ⟨k, hk, rfl, HT⟩ := hrel
                obtain ⟨x0, x1, x2, x3, x4, x5, x6, x7, y0, y1, y2, y3, y4, y5, y6, y7⟩ := g2c HT.out
                by_cases hlt : k < nb
                · have hlt' : (k : Int) < nb := by omega
                  have hlt0 : (0 : Int) ≤ (k : Int) := by omega
                  obtain ⟨b, off, hA, hbb, h0, h1, h2, ho, hn⟩ := HBl.out.1 k hlt
                  obtain ⟨b', off', hA', hbb', h0', h1', h2', ho', hn'⟩ := HBl.out.2 k hlt
                  have HLn := Lib.hid (hf.ops _ (mem_getD (d := Gr.blk0) (show k < g.blks.length by rw [HNb.out]; exact hlt)))
                  obtain ⟨no, hno⟩ : ∃ n, (g.blks.getD k Gr.blk0).ops.length = n := ⟨_, rfl⟩
                  obtain ⟨nn, hnn⟩ : ∃ n, (g.blks.getD k Gr.blk0).next.length = n := ⟨_, rfl⟩
                  obtain ⟨cd, hcd⟩ : ∃ n, (g.blks.getD k Gr.blk0).cond = n := ⟨_, rfl⟩
                  obtain ⟨l, hl⟩ : ∃ n, (g.blks.getD k Gr.blk0).ops = n := ⟨_, rfl⟩
                  obtain ⟨q, hq⟩ : ∃ n, (g.blks.getD k Gr.blk0).next = n := ⟨_, rfl⟩
                  rw [hno] at h0 h0' ho ho'
                  rw [hnn] at h2 h2' hn hn'
                  rw [hcd] at h1 h1'
                  rw [hl] at ho ho' hno HLn
                  rw [hq] at hn hn' hnn HLn
                  clear hcd hl hq
                  replace h0 := (HT.out.1.cell (p := ⟨b, off + k * 3, none⟩) hbb).trans h0
                  replace h1 := (HT.out.1.cell (p := ⟨b, off + k * 3 + 1, none⟩) hbb).trans h1
                  replace h2 := (HT.out.1.cell (p := ⟨b, off + k * 3 + 2, none⟩) hbb).trans h2
                  replace h0' := (HT.out.1.cell (p := ⟨b', off' + k * 3, none⟩) hbb').trans h0'
                  replace h1' := (HT.out.1.cell (p := ⟨b', off' + k * 3 + 1, none⟩) hbb').trans h1'
                  replace h2' := (HT.out.1.cell (p := ⟨b', off' + k * 3 + 2, none⟩) hbb').trans h2'
                  obtain ⟨_, _, e1, hop⟩ := ho.opened
                  injection e1 with e1 e2 e3
                  subst e1 e3
                  clear e2
                  obtain ⟨_, _, e1, hop'⟩ := ho'.opened
                  injection e1 with e1 e2 e3
                  subst e1 e3
                  clear e2
                  rw [hno] at hop hop'
                  have HOp := Lib.hid (And.intro hop hop')
                  have HNx := Lib.hid (And.intro hn hn')
                  have HNo := Lib.hid hno
                  have HNn := Lib.hid hnn
                  have hno47 : no ≤ 140737488355328 := by rw [← HNo.out]; exact HLn.out.1
                  clear hop hop' hn hn' ho ho' hno hnn
                  have hgs : w.heap.size < wr.heap.size := HT.out.2.1.lt
                  have hgs2 : w.heap.size + 1 < wr.heap.size := HT.out.2.2.lt
                  have hbw : b < wr.heap.size := Nat.lt_of_lt_of_le hbb HT.out.1.size
                  have hbw' : b' < wr.heap.size := Nat.lt_of_lt_of_le hbb' HT.out.1.size
                  go_upto_region 21 with fail
                  go_cut [9, 10] from 129 to 185 (fun p p' wc => ∃ b9 b10 : Nat, p = .pointer (some ⟨b9, 0, none⟩) ∧ p' = .pointer (some ⟨b10, 0, none⟩) ∧ Hid (B2 w #[.slice Ai ni ci, .int .i64 V, .int .i64 K, .slice Aa na ca, .int .i64 S, .slice Ab nb cb, .slice Ap np cp, .slice Ah nh ch] #[.slice Ai' ni ci', .int .i64 V, .int .i64 K, .slice Aa' na ca', .int .i64 S, .slice Ab' nb cb', .slice Ap' np cp', .slice Ah' nh ch'] b9 b10 #[.slice (a1 k) no (c1 k), .int .i64 cd, .slice (a2 k) nn (c2 k)] #[.slice (a1' k) no (c1' k), .int .i64 cd, .slice (a2' k) nn (c2' k)] wc))
                  case first =>
                    subst hA hA'
                    go_region
                    all_goals
                      go_wp2
                      go_meet
                      first | exact ⟨_, _, rfl, rfl, Lib.hid (b2_new1 HT.out)⟩ | exact ⟨_, _, rfl, rfl, Lib.hid (b2_new2 HT.out)⟩
                  case rest =>
                    obtain ⟨b9, b10, rfl, rfl, HB⟩ := hcut
                    clear h0 h1 h2 h0' h1' h2' hgs hgs2 hbw hbw' HT x0 x1 x2 x3 x4 x5 x6 x7 y0 y1 y2 y3 y4 y5 y6 y7
                    have p0 := HB.out.2.1.cell 0
                    have p1 := HB.out.2.1.cell 1
                    have p2 := HB.out.2.1.cell 2
                    have q0 := HB.out.2.2.cell 0
                    have q1 := HB.out.2.2.cell 1
                    have q2 := HB.out.2.2.cell 2
                    have HSi := Lib.hid (sameints_any q _ _ wc (HNx.out.1.below HB.out.1.1) (HNx.out.2.below HB.out.1.1) (Gr.le_max HLn.out.2))
                    go_wp2_with fail
                    refine HSi.out.mono ?_
                    rintro e w2 ⟨rfl, hb2⟩
                    have HB2 := Lib.hid (HB.out.below hb2)
                    clear p0 p1 p2 q0 q1 q2 hb2 HSi HB
                    go_wp2
                    go_loopw [11] (fun i wr => ∃ j : Nat, j ≤ no ∧ i = .int .i64 j ∧ Hid (B2 w #[.slice Ai ni ci, .int .i64 V, .int .i64 K, .slice Aa na ca, .int .i64 S, .slice Ab nb cb, .slice Ap np cp, .slice Ah nh ch] #[.slice Ai' ni ci', .int .i64 V, .int .i64 K, .slice Aa' na ca', .int .i64 S, .slice Ab' nb cb', .slice Ap' np cp', .slice Ah' nh ch'] b9 b10 #[.slice (a1 k) no (c1 k), .int .i64 cd, .slice (a2 k) nn (c2 k)] #[.slice (a1' k) no (c1' k), .int .i64 cd, .slice (a2' k) nn (c2' k)] wr)) (fun i _ => no - (intOf i).toNat)
                    case atStart => exact ⟨0, Nat.zero_le _, rfl, HB2⟩
                    case round =>
                      clear HB2
                      obtain ⟨j, hj, rfl, HB⟩ := hrel
                      have p0 := HB.out.2.1.cell 0
                      have q0 := HB.out.2.2.cell 0
                      by_cases hltj : j < no
                      · have hltj' : (j : Int) < no := by omega
                        have hltj0 : (0 : Int) ≤ (j : Int) := by omega
                        obtain ⟨bo, oo, hAo, hbo, z0, z1, z2, z3, z4⟩ := HOp.out.1 j hltj
                        obtain ⟨bo', oo', hAo', hbo', z0', z1', z2', z3', z4'⟩ := HOp.out.2 j hltj
                        rw [hAo] at p0
                        rw [hAo'] at q0
                        replace z0 := (HB.out.1.1.cell (p := ⟨bo, oo + j * 5, none⟩) hbo).trans z0
                        replace z0' := (HB.out.1.1.cell (p := ⟨bo', oo' + j * 5, none⟩) hbo').trans z0'
                        replace z1 := (HB.out.1.1.cell (p := ⟨bo, oo + j * 5 + 1, none⟩) hbo).trans z1
                        replace z1' := (HB.out.1.1.cell (p := ⟨bo', oo' + j * 5 + 1, none⟩) hbo').trans z1'
                        replace z2 := (HB.out.1.1.cell (p := ⟨bo, oo + j * 5 + 2, none⟩) hbo).trans z2
                        replace z2' := (HB.out.1.1.cell (p := ⟨bo', oo' + j * 5 + 2, none⟩) hbo').trans z2'
                        replace z3 := (HB.out.1.1.cell (p := ⟨bo, oo + j * 5 + 3, none⟩) hbo).trans z3
                        replace z3' := (HB.out.1.1.cell (p := ⟨bo', oo' + j * 5 + 3, none⟩) hbo').trans z3'
                        replace z4 := (HB.out.1.1.cell (p := ⟨bo, oo + j * 5 + 4, none⟩) hbo).trans z4
                        replace z4' := (HB.out.1.1.cell (p := ⟨bo', oo' + j * 5 + 4, none⟩) hbo').trans z4'
                        generalize (l.getD j Gr.op0).kind = k0 at *
                        generalize (l.getD j Gr.op0).dst = k1 at *
                        generalize (l.getD j Gr.op0).a = k2 at *
                        generalize (l.getD j Gr.op0).b = k3 at *
                        generalize (l.getD j Gr.op0).imm = k4 at *
                        go_wp2
                        go_quiet (fail)
                        go_wp2
                        go_roundw
                        case rel => exact ⟨j + 1, by omega, by first | rfl | go_num, Lib.hid (HB.out.below (below_drewN _ _ _))⟩
                        case measure => simp [intOf]; omega
                      · have hltj' : ¬ (j : Int) < no := by omega
                        go_wp2
                        go_roundw
                        case rel => exact ⟨k + 1, by omega, by first | rfl | go_num, by subst hA hA'; exact Lib.hid HB.out.1⟩
                        case measure => simp [intOf]; omega
                · have hlt' : ¬ (k : Int) < nb := by omega
                  go_wp2
                  go_ret
                  exact ⟨rfl, HT.out.1⟩
end Go.Proofs.Ytojnhdkclabkgaa
