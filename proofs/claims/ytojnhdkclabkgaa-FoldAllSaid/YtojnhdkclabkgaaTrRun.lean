/- The specification's Run, from inputs that fit, without shared arrays and locks, to the end. No condition. -/
import Derived.Test.YtojnhdkclabkgaaTrIn
import Derived.Test.YtojnhdkclabkgaaTrRunA
import Derived.Test.YtojnhdkclabkgaaGrRefD
import Derived.Test.YtojnhdkclabkgaaGrMake
import Derived.Test.YtojnhdkclabkgaaGrCopy
import Derived.Test.YtojnhdkclabkgaaStFresh
namespace Go.Proofs.Ytojnhdkclabkgaa
open Go.RowKit
set_option linter.unusedVariables false
set_option linter.unusedSimpArgs false
attribute [local go_sem] y_undef
theorem nums_part {u : World} {g k c : Nat} {t : TypeId} {l : List Int} (h : Bk u g t (l.map (Value.int .i64)).toArray) (hk : k ≤ l.length) : NumsIn u (.slice (some ⟨g, 0, none⟩) k c) (l.take k) := by
  have hl : (l.take k).length = k := by rw [List.length_take]; omega
  refine ⟨_, c, by rw [hl], by rw [List.length_map, hl]; omega, .inr ⟨g, 0, rfl, h.lt, fun j x hj => ?_⟩⟩
  rw [Nat.zero_add, h.cell]
  have hj' := (List.getElem?_eq_some_iff.1 hj).1
  rw [List.length_map, hl] at hj'
  rw [List.getElem?_map, List.getElem?_take, if_pos hj'] at hj
  simpa using hj
theorem nums_bkl {u : World} {g n c : Nat} {t : TypeId} {l : List Int} (h : Bk u g t (l.map (Value.int .i64)).toArray) (hn : l.length = n) : NumsIn u (.slice (some ⟨g, 0, none⟩) n c) l := by
  have := nums_part (k := n) (c := c) h (by omega)
  rwa [List.take_of_length_le (by omega)] at this
theorem own_cap {u : World} {base sz m n g c : Nat} {e : TypeId} {xs : List Value} (h : u.ownsRow base e sz (.slice (some ⟨g, 0, none⟩) m c) n xs) : m ≤ c := by
  rcases h.2 with ⟨h0, _⟩ | ⟨g', cap', cur, hs, hb, hg, hc, _⟩
  · injection h0 with h0; exact absurd h0 (by simp)
  · injection hs with _ h2 h3; omega
theorem init_wf {V : Nat} {xs : List Int} {ars : List (ByteArray × Int)} (hx : xs.length ≤ V) (hw : ∀ x ∈ xs, Tr.isWd x) (ha : ∀ k, k < ars.length → 1 ≤ (ars.getD k Gr.ar0).2 ∧ (ars.getD k Gr.ar0).2 ≤ 16) : Tr.Wf V ars.length (Tr.init V xs ars) := by
  have hz : Tr.isWd 0 := by unfold Tr.isWd; omega
  refine ⟨by show (xs ++ _).length = V; rw [List.length_append, List.length_replicate]; omega, fun x hm => ?_, List.length_map .., fun a hm => ?_, fun a hm x hx => ?_⟩
  · rcases List.mem_append.1 hm with h | h
    · exact hw x h
    · rw [(List.mem_replicate.1 h).2]; exact hz
  · obtain ⟨p, hp, rfl⟩ := List.mem_map.1 hm
    obtain ⟨k, hk, rfl⟩ := List.getElem_of_mem hp
    have := ha k hk
    rw [show ars.getD k Gr.ar0 = ars[k] by simp [List.getD, List.getElem?_eq_getElem hk]] at this
    rw [List.length_replicate]
    omega
  · obtain ⟨p, hp, rfl⟩ := List.mem_map.1 hm
    rw [(List.mem_replicate.1 hx).2]; exact hz
theorem ptsin_bel {w w' : World} {v : Value} {l : List (List Int)} (h : PtsIn w v l) (hb : Below w.heap.size w w') : PtsIn w' v l := by
  obtain ⟨A, c, a1, c1, e, ho⟩ := h
  refine ⟨A, c, a1, c1, e, fun i hi => ?_⟩
  obtain ⟨b, off, eA, hlt, hc, hq, hs⟩ := ho i hi
  exact ⟨b, off, eA, Nat.lt_of_lt_of_le hlt hb.size, (hb.cell (p := ⟨b, off + i, none⟩) hlt).trans hc, hq.below hb, hs⟩
set_option maxHeartbeats 16000000 in
set_option maxRecDepth 100000 in
theorem rrun_any (g : Gr.G) (V K : Nat) (vi va vb vp vh vx : Value) (xs : List Int) (n N : Nat) (w : World) (hi : GrIn w g vi va vb vp vh) (hp : PtsIn w vp g.pts) (hf : Gr.Fit g) (h0 : Gr.chk g = 0) (hVe : g.vars = (V : Int)) (hV : V ≤ 64) (hKe : g.keep = (K : Int)) (hKV : K ≤ V) (hsh : g.sh = 0)
    (hA1 : 1 ≤ g.ars.length) (hA8 : g.ars.length ≤ 8) (hAs : ∀ k, k < g.ars.length → 1 ≤ (g.ars.getD k Gr.ar0).2 ∧ (g.ars.getD k Gr.ar0).2 ≤ 16) (hB : g.blks.length ≤ 64)
    (hops : ∀ k, k < g.blks.length → (Tr.blk g k).ops.length ≤ 1000 ∧ ∀ j, j < (Tr.blk g k).ops.length → Tr.Ok V g.ars.length ((Tr.blk g k).ops.getD j Gr.op0))
    (hnx : ∀ k, k < g.blks.length → ((Tr.blk g k).next.length = 2 → 0 ≤ (Tr.blk g k).cond ∧ (Tr.blk g k).cond < V) ∧ ∀ j, j < (Tr.blk g k).next.length → 0 ≤ (Tr.blk g k).next.getD j 0)
    (hx : NumsIn w vx xs) (hxl : xs.length = g.ins.length) (hxV : xs.length ≤ V) (hxr : ∀ i, i < g.ins.length → (g.ins.getD i Gr.in0).2.1 ≤ xs.getD i 0 ∧ xs.getD i 0 ≤ (g.ins.getD i Gr.in0).2.2) (hxw : ∀ x ∈ xs, Tr.isWd x) (hn : n ≤ 40000)
    (hgo : Tr.Goes g (Tr.start g V xs n) N) :
    Calls Try.prog 9 #[.agg #[vi, .int .i64 g.vars, .int .i64 g.keep, va, .int .i64 g.sh, vb, vp, vh], vx, .slice none 0 0, .int .i64 (n : Int)] w (RunPost K (Tr.pass g (Tr.its g (Tr.start g V xs n) N)) w) := by
  have HIn := Lib.hid fun (W : World) (hW : Below w.heap.size w W) => rinputs_any g.ins xs vi vx W (hi.ins.below hW) (hx.below hW) hxl (by omega) hxr
  have HCk := Lib.hid fun (W : World) (hW : Below w.heap.size w W) => rcheck_any g _ _ _ _ _ 0 h0 W (hi.below hW) (ptsin_bel hp hW) hf
  obtain ⟨Ai, ci, rfl, -⟩ := hi.ins.opened
  obtain ⟨Aa, ca, rfl, har⟩ := hi.ars.opened
  obtain ⟨Ab, cb, a1, a2, k1, k2, rfl, hbl⟩ := id hi.blks
  obtain ⟨Aq, cp, ap, kp, rfl, -⟩ := hi.pts.opened
  obtain ⟨Ah, ch, rfl, -⟩ := hi.hds.opened
  obtain ⟨Ax, cx, rfl, -⟩ := hx.opened
  rw [hVe, hKe, hsh] at HCk ⊢
  have HAr := Lib.hid har
  have HBl := Lib.hid hbl
  have HAs := Lib.hid hAs
  have HOps := Lib.hid hops
  have HNx := Lib.hid hnx
  have HGo := Lib.hid hgo
  have HX := Lib.hid hx
  have HWf := Lib.hid (show Tr.Wf V g.ars.length (Tr.start g V xs n).s from init_wf hxV hxw hAs)
  have HXw := Lib.hid hxw
  have HL := Lib.hid (And.intro hV (And.intro hKV (And.intro hA1 (And.intro hA8 (And.intro hB (And.intro hxV hn))))))
  have hmn := mk_ints V (by omega)
  have hmz := fun (z : Nat) (hz : z ≤ 1000) => mk_ints z hz
  have HMz := Lib.hid hmz
  have hmb := mk_bools 4 (by omega)
  clear hi hp hf h0 har hbl hAs hops hnx hgo hx hxr hxw hmz hVe hKe hsh hxl
  obtain ⟨iTL, hi0, hz0, hz1, hz2⟩ := info_parts info_lst
  have HTL := Lib.hid (And.intro hi0 (And.intro hz0 (And.intro hz1 hz2)))
  clear hi0 hz0 hz1 hz2
  have HS := Lib.hid (show Below w.heap.size w ((w.alloc (.cells #[.slice Ai g.ins.length ci, .int .i64 (V : Int), .int .i64 (K : Int), .slice Aa g.ars.length ca, .int .i64 0, .slice Ab g.blks.length cb, .slice Aq g.pts.length cp, .slice Ah g.hds.length ch] 40)).alloc (.cells #[.slice none 0 0, .slice none 0 0, .slice none 0 0, .slice none 0 0, .int .i64 0] 45)) ∧ Bk ((w.alloc (.cells #[.slice Ai g.ins.length ci, .int .i64 (V : Int), .int .i64 (K : Int), .slice Aa g.ars.length ca, .int .i64 0, .slice Ab g.blks.length cb, .slice Aq g.pts.length cp, .slice Ah g.hds.length ch] 40)).alloc (.cells #[.slice none 0 0, .slice none 0 0, .slice none 0 0, .slice none 0 0, .int .i64 0] 45)) w.heap.size 40 #[.slice Ai g.ins.length ci, .int .i64 (V : Int), .int .i64 (K : Int), .slice Aa g.ars.length ca, .int .i64 0, .slice Ab g.blks.length cb, .slice Aq g.pts.length cp, .slice Ah g.hds.length ch] ∧ Bk ((w.alloc (.cells #[.slice Ai g.ins.length ci, .int .i64 (V : Int), .int .i64 (K : Int), .slice Aa g.ars.length ca, .int .i64 0, .slice Ab g.blks.length cb, .slice Aq g.pts.length cp, .slice Ah g.hds.length ch] 40)).alloc (.cells #[.slice none 0 0, .slice none 0 0, .slice none 0 0, .slice none 0 0, .int .i64 0] 45)) (w.heap.size + 1) 45 #[.slice none 0 0, .slice none 0 0, .slice none 0 0, .slice none 0 0, .int .i64 0] from ⟨bla (bla (Below.refl _ _) _) _, (Bk.new w _ _).below (bla (Below.refl _ _) _), by
    have h := Bk.new (w.alloc (.cells #[.slice Ai g.ins.length ci, .int .i64 (V : Int), .int .i64 (K : Int), .slice Aa g.ars.length ca, .int .i64 0, .slice Ab g.blks.length cb, .slice Aq g.pts.length cp, .slice Ah g.hds.length ch] 40)) 45 #[.slice none 0 0, .slice none 0 0, .slice none 0 0, .slice none 0 0, .int .i64 0]
    rw [size_alloc] at h
    exact h⟩)
  go_enter Try.func9, Try.ntmps9
  go_upto_region 1 with fail
  generalize hW : World.alloc _ (.cells #[.slice none 0 0, .slice none 0 0, .slice none 0 0, .slice none 0 0, .int .i64 0] 45) = W0 at HS ⊢
  clear hW
  have g0 := HS.out.2.1.cell 0
  have g1 := HS.out.2.1.cell 1
  have g2 := HS.out.2.1.cell 2
  have g3 := HS.out.2.1.cell 3
  have g4 := HS.out.2.1.cell 4
  have g5 := HS.out.2.1.cell 5
  have g6 := HS.out.2.1.cell 6
  have g7 := HS.out.2.1.cell 7
  go_wp2_with fail
  refine (HCk.out _ HS.out.1).mono ?_
  rintro e w1 ⟨rfl, hb1⟩
  have HS1 := Lib.hid (show Below w.heap.size w w1 ∧ Bk w1 w.heap.size _ _ ∧ Bk w1 (w.heap.size + 1) _ _ from ⟨blt HS.out.1 hb1, HS.out.2.1.below hb1, HS.out.2.2.below hb1⟩)
  clear hb1 HS HCk g0 g1 g2 g3 g4 g5 g6 g7
  have g0 := HS1.out.2.1.cell 0
  have g1 := HS1.out.2.1.cell 1
  have g2 := HS1.out.2.1.cell 2
  have g3 := HS1.out.2.1.cell 3
  have g4 := HS1.out.2.1.cell 4
  have g5 := HS1.out.2.1.cell 5
  have g6 := HS1.out.2.1.cell 6
  have g7 := HS1.out.2.1.cell 7
  go_wp2_with fail
  refine (HIn.out _ HS1.out.1).mono ?_
  rintro e w2 ⟨rfl, hb1⟩
  have HS2 := Lib.hid (show Below w.heap.size w w2 ∧ Bk w2 w.heap.size _ _ ∧ Bk w2 (w.heap.size + 1) _ _ from ⟨blt HS1.out.1 hb1, HS1.out.2.1.below hb1, HS1.out.2.2.below hb1⟩)
  clear hb1 HS1 HIn g0 g1 g2 g3 g4 g5 g6 g7
  have g0 := HS2.out.2.1.cell 0
  have g1 := HS2.out.2.1.cell 1
  have g2 := HS2.out.2.1.cell 2
  have g3 := HS2.out.2.1.cell 3
  have g4 := HS2.out.2.1.cell 4
  have g5 := HS2.out.2.1.cell 5
  have g6 := HS2.out.2.1.cell 6
  have g7 := HS2.out.2.1.cell 7
  have hA8 := HL.out.2.2.2.1
  have ew : wrap64 (g.ars.length - 0 : Int) = g.ars.length := by rw [Int.sub_zero]; exact IntWalk.wrap64_in _ (by omega)
  have hn40 := HL.out.2.2.2.2.2.2
  have hn0 : ¬ ((n : Int) < 0) := by omega
  have hn1 : ¬ ((40000 : Int) < (n : Int)) := by omega
  go_wp2
  go_loopw [12, 13] (fun i j wr => i = .int .i64 0 ∧ Hid (wr = w2)) (fun _ _ _ => 0)
  case atStart => exact ⟨rfl, Lib.hid rfl⟩
  case round =>
    obtain ⟨rfl, hwr⟩ := hrel
    obtain rfl := hwr.out
    clear hwr
    go_upto_region 21 with fail
    clear g0 g1 g2 g3 g4 g5 g6 g7
    obtain ⟨u0, hu0⟩ : ∃ u0, wr.drew = u0 := ⟨_, rfl⟩
    have HU0 := Lib.hid hu0
    have hL : Below wr.heap.size wr u0 := by subst hu0; exact below_drewN _ _ 1
    have hS0 : Bk u0 w.heap.size 40 #[.slice Ai g.ins.length ci, .int .i64 (V : Int), .int .i64 (K : Int), .slice Aa g.ars.length ca, .int .i64 0, .slice Ab g.blks.length cb, .slice Aq g.pts.length cp, .slice Ah g.hds.length ch] := HS2.out.2.1.below hL
    have hwl := HS2.out.2.2.lt
    clear hu0
    have hmb4 : ∀ u, (Instr.makeSlice 65 (.int .i64 4) (.int .i64 4)).run Try.prog u = _ := fun u => hmb u
    clear hmb
    refine wp_region_held_drew (S := (fun u : World => Bk u w.heap.size 40 #[.slice Ai g.ins.length ci, .int .i64 (V : Int), .int .i64 (K : Int), .slice Aa g.ars.length ca, .int .i64 0, .slice Ab g.blks.length cb, .slice Aq g.pts.length cp, .slice Ah g.hds.length ch])) (by kernel_rfl) (by rw [HU0.out]; exact hS0) (fun hHeld => ?_)
    rw [HU0.out] at hHeld ⊢
    clear hS0
    refine' wpAnyH_take (i := 0) (v := _) ?_ ?_ ?_ ?_ ?_ ?_ ?_ ?_
    rotate_left 2
    focus (simp only [List.getElem?_toArray, List.getElem?_cons_succ, List.getElem?_cons_zero]; rfl)
    focus kernel_rfl
    focus kernel_rfl
    focus kernel_rfl
    focus exact (fun _ _ _ h => h)
    refine Or.inl ⟨?_, ?_⟩
    focus (go_simp; done)
    focus (intro w hSw; have q0 := hSw.cell 0; have q1 := hSw.cell 1; have q2 := hSw.cell 2; have q3 := hSw.cell 3; have q4 := hSw.cell 4; have q5 := hSw.cell 5; have q6 := hSw.cell 6; have q7 := hSw.cell 7; (first | (go_simp; done) | (go_simp; with_reducible rfl)))
    focus assumption
    (try simp only [Act.put, List.setIfInBounds_toArray, List.set_cons_zero, List.set_cons_succ])
    refine' wpAnyH_take (i := 1) (v := _) ?_ ?_ ?_ ?_ ?_ ?_ ?_ ?_
    rotate_left 2
    focus (simp only [List.getElem?_toArray, List.getElem?_cons_succ, List.getElem?_cons_zero]; rfl)
    focus kernel_rfl
    focus kernel_rfl
    focus kernel_rfl
    focus exact (fun _ _ _ h => h)
    refine Or.inl ⟨?_, ?_⟩
    focus (go_simp; done)
    focus (intro w hSw; have q0 := hSw.cell 0; have q1 := hSw.cell 1; have q2 := hSw.cell 2; have q3 := hSw.cell 3; have q4 := hSw.cell 4; have q5 := hSw.cell 5; have q6 := hSw.cell 6; have q7 := hSw.cell 7; (first | (go_simp; done) | (go_simp; with_reducible rfl)))
    focus assumption
    (try simp only [Act.put, List.setIfInBounds_toArray, List.set_cons_zero, List.set_cons_succ])
    refine' wpAnyH_take (i := 2) (v := _) ?_ ?_ ?_ ?_ ?_ ?_ ?_ ?_
    rotate_left 2
    focus (simp only [List.getElem?_toArray, List.getElem?_cons_succ, List.getElem?_cons_zero]; rfl)
    focus kernel_rfl
    focus kernel_rfl
    focus kernel_rfl
    focus exact (fun _ _ _ h => h)
    refine Or.inl ⟨?_, ?_⟩
    focus (go_simp; done)
    focus (intro w hSw; have q0 := hSw.cell 0; have q1 := hSw.cell 1; have q2 := hSw.cell 2; have q3 := hSw.cell 3; have q4 := hSw.cell 4; have q5 := hSw.cell 5; have q6 := hSw.cell 6; have q7 := hSw.cell 7; (first | (go_simp; done) | (go_simp; with_reducible rfl)))
    focus assumption
    (try simp only [Act.put, List.setIfInBounds_toArray, List.set_cons_zero, List.set_cons_succ])
    refine' wpAnyH_take (i := 5) (v := _) ?_ ?_ ?_ ?_ ?_ ?_ ?_ ?_
    rotate_left 2
    focus (simp only [List.getElem?_toArray, List.getElem?_cons_succ, List.getElem?_cons_zero]; rfl)
    focus kernel_rfl
    focus kernel_rfl
    focus kernel_rfl
    focus exact (fun _ _ _ h => h)
    refine Or.inl ⟨?_, ?_⟩
    focus (go_simp; done)
    focus (intro w hSw; have q0 := hSw.cell 0; have q1 := hSw.cell 1; have q2 := hSw.cell 2; have q3 := hSw.cell 3; have q4 := hSw.cell 4; have q5 := hSw.cell 5; have q6 := hSw.cell 6; have q7 := hSw.cell 7; (first | (go_simp; done) | (go_simp; with_reducible rfl)))
    focus assumption
    (try simp only [Act.put, List.setIfInBounds_toArray, List.set_cons_zero, List.set_cons_succ])
    refine' mh2 (Pre := fun (Vb Hb : Nat) (w' : World) => Below wr.heap.size wr w' ∧ wr.heap.size ≤ Vb ∧ wr.heap.size ≤ Hb ∧ Bk w' Vb 3 (slRow V (fun _ => .int .i64 0)) ∧ Bk w' Hb 4 (slRow 4 (fun _ => .bool false)) ∧ Vb ≠ Hb ∧ Bk w' w.heap.size 40 #[.slice Ai g.ins.length ci, .int .i64 (V : Int), .int .i64 (K : Int), .slice Aa g.ars.length ca, .int .i64 0, .slice Ab g.blks.length cb, .slice Aq g.pts.length cp, .slice Ah g.hds.length ch]) _ #[true, true, true, true, true, true, false, false, false] _ (fun HK1 => ?ha1) (fun Vb Hb w' hpre => ?hb1)
    case ha1 =>
      refine wpAnyH_ready (rs := [3, 4]) (by kernel_rfl) (by simp) ?_
      refine' AllReadyH.cons ?_ (fun K hK => ?_) ?_
      rotate_left
      focus (simp only [List.getElem?_toArray, List.getElem?_cons_succ, List.getElem?_cons_zero]; rfl)
      focus
        go_simp
        have hb := (Below.refl u0.heap.size u0).alloc (Nat.le_refl _) (.cells (slRow V (fun _ => .int .i64 0)) 3)
        refine hK.out _ _ (hHeld.below hb) (fun hHeld => ?_)
        clear hK K
        (try simp only [Act.put, List.setIfInBounds_toArray, List.set_cons_zero, List.set_cons_succ])
        have hl3 := hL.size
        replace hL := blt hL hb
        have hk3 := Bk.new u0 3 (slRow V (fun _ => .int .i64 0))
        clear hb
        generalize u0.alloc (.cells (slRow V (fun _ => .int .i64 0)) 3) = v3 at *
        generalize u0.heap.size = Vb at *
        refine wpAnyH_ready (rs := [4]) (by kernel_rfl) (by simp) ?_
        refine' AllReadyH.cons ?_ (fun K hK => ?_) AllReadyH.nil
        rotate_left
        focus (simp only [List.getElem?_toArray, List.getElem?_cons_succ, List.getElem?_cons_zero]; rfl)
        go_simp
        have hb := (Below.refl v3.heap.size v3).alloc (Nat.le_refl _) (.cells (slRow 4 (fun _ => .bool false)) 4)
        refine hK.out _ _ (hHeld.below hb) (fun hHeld => ?_)
        clear hK K
        (try simp only [Act.put, List.setIfInBounds_toArray, List.set_cons_zero, List.set_cons_succ])
        have hl4 := hL.size
        replace hL := blt hL hb
        have hne3_4 := Nat.ne_of_lt hk3.lt
        replace hk3 := hk3.below hb
        have hk4 := Bk.new v3 4 (slRow 4 (fun _ => .bool false))
        clear hb
        generalize v3.alloc (.cells (slRow 4 (fun _ => .bool false)) 4) = v34 at *
        generalize v3.heap.size = Hb at *
        refine wpAnyH_listed (listed' := #[true, true, true, true, true, true, false, false, false]) (by kernel_rfl) ?_
        exact HK1 Vb Hb v34 ⟨hL, hl3, hl4, hk3, hk4, hne3_4, hHeld⟩
      refine' AllReadyH.cons ?_ (fun K hK => ?_) ?_
      rotate_left
      focus (simp only [List.getElem?_toArray, List.getElem?_cons_succ, List.getElem?_cons_zero]; rfl)
      focus
        go_simp
        have hb := (Below.refl u0.heap.size u0).alloc (Nat.le_refl _) (.cells (slRow 4 (fun _ => .bool false)) 4)
        refine hK.out _ _ (hHeld.below hb) (fun hHeld => ?_)
        clear hK K
        (try simp only [Act.put, List.setIfInBounds_toArray, List.set_cons_zero, List.set_cons_succ])
        have hl4 := hL.size
        replace hL := blt hL hb
        have hk4 := Bk.new u0 4 (slRow 4 (fun _ => .bool false))
        clear hb
        generalize u0.alloc (.cells (slRow 4 (fun _ => .bool false)) 4) = v4 at *
        generalize u0.heap.size = Hb at *
        refine wpAnyH_ready (rs := [3]) (by kernel_rfl) (by simp) ?_
        refine' AllReadyH.cons ?_ (fun K hK => ?_) AllReadyH.nil
        rotate_left
        focus (simp only [List.getElem?_toArray, List.getElem?_cons_succ, List.getElem?_cons_zero]; rfl)
        go_simp
        have hb := (Below.refl v4.heap.size v4).alloc (Nat.le_refl _) (.cells (slRow V (fun _ => .int .i64 0)) 3)
        refine hK.out _ _ (hHeld.below hb) (fun hHeld => ?_)
        clear hK K
        (try simp only [Act.put, List.setIfInBounds_toArray, List.set_cons_zero, List.set_cons_succ])
        have hl3 := hL.size
        replace hL := blt hL hb
        have hne4_3 := Nat.ne_of_lt hk4.lt
        replace hk4 := hk4.below hb
        have hk3 := Bk.new v4 3 (slRow V (fun _ => .int .i64 0))
        clear hb
        generalize v4.alloc (.cells (slRow V (fun _ => .int .i64 0)) 3) = v43 at *
        generalize v4.heap.size = Vb at *
        refine wpAnyH_listed (listed' := #[true, true, true, true, true, true, false, false, false]) (by kernel_rfl) ?_
        exact HK1 Vb Hb v43 ⟨hL, hl3, hl4, hk3, hk4, (Ne.symm hne4_3), hHeld⟩
      exact AllReadyH.nil
    obtain ⟨hL2, l3, l4, k3, k4, n34, hHeld⟩ := hpre
    refine' wpAnyH_take (i := 6) (v := _) ?_ ?_ ?_ ?_ ?_ ?_ ?_ ?_
    rotate_left 2
    focus (simp only [List.getElem?_toArray, List.getElem?_cons_succ, List.getElem?_cons_zero]; rfl)
    focus kernel_rfl
    focus kernel_rfl
    focus kernel_rfl
    focus exact (fun _ _ _ h => h)
    refine Or.inl ⟨?_, ?_⟩
    focus (go_simp; done)
    focus (intro w hSw; have q0 := hSw.cell 0; have q1 := hSw.cell 1; have q2 := hSw.cell 2; have q3 := hSw.cell 3; have q4 := hSw.cell 4; have q5 := hSw.cell 5; have q6 := hSw.cell 6; have q7 := hSw.cell 7; (first | (go_simp; done) | (go_simp; with_reducible rfl)))
    focus assumption
    (try simp only [Act.put, List.setIfInBounds_toArray, List.set_cons_zero, List.set_cons_succ])
    refine wpAnyH_ready (rs := [7]) (by kernel_rfl) (by simp) ?_
    refine' AllReadyH.cons ?_ (fun K hK => ?_) AllReadyH.nil
    rotate_left
    focus (simp only [List.getElem?_toArray, List.getElem?_cons_succ, List.getElem?_cons_zero]; rfl)
    go_simp
    refine hK.out _ _ (hHeld.below (bla (Below.refl _ _) _)) (fun hHeld => ?_)
    clear hK K
    (try simp only [Act.put, List.setIfInBounds_toArray, List.set_cons_zero, List.set_cons_succ])
    refine' wpAnyH_take (i := 8) (v := _) ?_ ?_ ?_ ?_ ?_ ?_ ?_ ?_
    rotate_left 2
    focus (simp only [List.getElem?_toArray, List.getElem?_cons_succ, List.getElem?_cons_zero]; rfl)
    focus kernel_rfl
    focus kernel_rfl
    focus kernel_rfl
    focus exact (fun _ _ _ h => h)
    refine Or.inl ⟨?_, ?_⟩
    focus (go_simp; done)
    focus (intro w hSw; have q0 := hSw.cell 0; have q1 := hSw.cell 1; have q2 := hSw.cell 2; have q3 := hSw.cell 3; have q4 := hSw.cell 4; have q5 := hSw.cell 5; have q6 := hSw.cell 6; have q7 := hSw.cell 7; (first | (go_simp; done) | (go_simp; with_reducible rfl)))
    focus assumption
    (try simp only [Act.put, List.setIfInBounds_toArray, List.set_cons_zero, List.set_cons_succ])
    refine wpAnyH_done (by kernel_rfl) ?_ _
    have hb : Below w'.heap.size w' (w'.alloc (.cells #[.slice Ai g.ins.length ci, .int .i64 (V : Int), .int .i64 (K : Int), .slice Aa g.ars.length ca, .int .i64 0, .slice Ab g.blks.length cb, .slice Aq g.pts.length cp, .slice Ah g.hds.length ch, .slice (some ⟨Vb, 0, none⟩) V V, .slice none 0 0, .slice (some ⟨Hb, 0, none⟩) 4 4, .int .i64 0, .int .i64 (n : Int)] 67)) := bla (Below.refl _ _) _
    have HZ := Lib.hid (show Rp w #[.slice Ai g.ins.length ci, .int .i64 (V : Int), .int .i64 (K : Int), .slice Aa g.ars.length ca, .int .i64 0, .slice Ab g.blks.length cb, .slice Aq g.pts.length cp, .slice Ah g.hds.length ch] #[.slice none 0 0, .slice none 0 0, .slice none 0 0, .slice none 0 0, .int .i64 0] wr.heap.size w'.heap.size Vb ⟨.slice Ai g.ins.length ci, .int .i64 (V : Int), .int .i64 (K : Int), .slice Aa g.ars.length ca, .int .i64 0, .slice Ab g.blks.length cb, .slice Aq g.pts.length cp, .slice Ah g.hds.length ch⟩ (.slice none 0 0) [] (.slice (some ⟨Hb, 0, none⟩) 4 4) ⟨List.replicate V 0, []⟩ 0 n (w'.alloc (.cells #[.slice Ai g.ins.length ci, .int .i64 (V : Int), .int .i64 (K : Int), .slice Aa g.ars.length ca, .int .i64 0, .slice Ab g.blks.length cb, .slice Aq g.pts.length cp, .slice Ah g.hds.length ch, .slice (some ⟨Vb, 0, none⟩) V V, .slice none 0 0, .slice (some ⟨Hb, 0, none⟩) 4 4, .int .i64 0, .int .i64 (n : Int)] 67)) from ⟨blt (blt HS2.out.1 hL2) hb, (HS2.out.2.1.below hL2).below hb, (HS2.out.2.2.below hL2).below hb, ⟨by have := Bk.new w' 67 #[.slice Ai g.ins.length ci, .int .i64 (V : Int), .int .i64 (K : Int), .slice Aa g.ars.length ca, .int .i64 0, .slice Ab g.blks.length cb, .slice Aq g.pts.length cp, .slice Ah g.hds.length ch, .slice (some ⟨Vb, 0, none⟩) V V, .slice none 0 0, .slice (some ⟨Hb, 0, none⟩) 4 4, .int .i64 0, .int .i64 (n : Int)]; simpa [rnC] using this, by rw [← slRow_nums]; exact k3.below hb, Mps.nil _ _, fun z hz => by simp at hz⟩, by omega, by have := hL2.size; omega, by omega⟩)
    have hlw : w'.heap.size < (w'.alloc (.cells #[.slice Ai g.ins.length ci, .int .i64 (V : Int), .int .i64 (K : Int), .slice Aa g.ars.length ca, .int .i64 0, .slice Ab g.blks.length cb, .slice Aq g.pts.length cp, .slice Ah g.hds.length ch, .slice (some ⟨Vb, 0, none⟩) V V, .slice none 0 0, .slice (some ⟨Hb, 0, none⟩) 4 4, .int .i64 0, .int .i64 (n : Int)] 67)).heap.size := by rw [size_alloc]; omega
    have hl5 := hL2.size
    obtain ⟨lo, hlo⟩ : ∃ lo, wr.heap.size = lo := ⟨_, rfl⟩
    obtain ⟨Rb, hRb⟩ : ∃ Rb, w'.heap.size = Rb := ⟨_, rfl⟩
    rw [hlo, hRb] at HZ
    rw [hRb]
    rw [hRb] at hlw
    rw [hlo] at l3 l4
    rw [hlo, hRb] at hl5
    generalize hW : w'.alloc (.cells #[.slice Ai g.ins.length ci, .int .i64 (V : Int), .int .i64 (K : Int), .slice Aa g.ars.length ca, .int .i64 0, .slice Ab g.blks.length cb, .slice Aq g.pts.length cp, .slice Ah g.hds.length ch, .slice (some ⟨Vb, 0, none⟩) V V, .slice none 0 0, .slice (some ⟨Hb, 0, none⟩) 4 4, .int .i64 0, .int .i64 (n : Int)] 67) = W1 at HZ hlw ⊢
    clear hW hlo hRb hb k3 k4 hL2 HU0 hHeld hL HS2 hmb4 hwl n34
    have HXW := Lib.hid (HX.out.below HZ.out.low)
    have m8 := HZ.out.rn.rb.cell 8
    unfold rnC at m8
    rw [List.length_replicate] at m8
    have hxV := HL.out.2.2.2.2.2.1
    go_wp2_with (refine wpList_copy_g rfl _ _ 32 32 rfl 3 Try.underlying32 (by kernel_rfl) Vb V V rfl (.slice Ax xs.length cx) xs.length (xs.map (.int .i64)) rfl (HXW.out) hxV _ 3 (HZ.out.rn.vb) (by simp; exact hxV) (fun u hu => by obtain ⟨z, _, rfl⟩ := List.mem_map.1 hu; rfl) ?_)
    intro w3 hbk hg
    have HZ2 := Lib.hid (show Rp w #[.slice Ai g.ins.length ci, .int .i64 (V : Int), .int .i64 (K : Int), .slice Aa g.ars.length ca, .int .i64 0, .slice Ab g.blks.length cb, .slice Aq g.pts.length cp, .slice Ah g.hds.length ch] #[.slice none 0 0, .slice none 0 0, .slice none 0 0, .slice none 0 0, .int .i64 0] lo Rb Vb ⟨.slice Ai g.ins.length ci, .int .i64 (V : Int), .int .i64 (K : Int), .slice Aa g.ars.length ca, .int .i64 0, .slice Ab g.blks.length cb, .slice Aq g.pts.length cp, .slice Ah g.hds.length ch⟩ (.slice none 0 0) [] (.slice (some ⟨Hb, 0, none⟩) 4 4) ⟨xs ++ List.replicate (V - xs.length) 0, []⟩ 0 n w3 from by
      have hV1 := HZ.out.hV
      have hvl : (xs ++ List.replicate (V - xs.length) (0 : Int)).length = V := by rw [List.length_append, List.length_replicate]; omega
      refine ⟨HZ.out.low.grown hg HZ.out.low.size (fun k hk => by injection hk with hk; omega), (hg.block _ HZ.out.gb.lt (fun e => by injection e with e; omega)).trans HZ.out.gb, (hg.block _ HZ.out.zb.lt (fun e => by injection e with e; omega)).trans HZ.out.zb, ⟨?_, ?_, Mps.nil _ _, fun z hz => by simp at hz⟩, HZ.out.hl, HZ.out.hR, hV1⟩
      · have h := (hg.block _ HZ.out.rn.rb.lt (fun e => bk_ty HZ.out.rn.rb HZ.out.rn.vb (by decide) (by injection e))).trans HZ.out.rn.rb
        rw [List.length_replicate] at h
        rw [hvl]
        exact h
      · have h := hbk
        rw [List.map_append]
        simpa using h)
    clear HZ hbk hg m8 HXW hlw W1
    have HLw := Lib.hid (show lo ≤ Rb ∧ lo ≤ Vb from ⟨by omega, by omega⟩)
    go_wp2
    go_loopw [15, 16] (fun i a wr => ∃ (k : Nat) (va : Value) (us : List Value), k ≤ g.ars.length ∧ i = .int .i64 k ∧ Hid (Rp w #[.slice Ai g.ins.length ci, .int .i64 (V : Int), .int .i64 (K : Int), .slice Aa g.ars.length ca, .int .i64 0, .slice Ab g.blks.length cb, .slice Aq g.pts.length cp, .slice Ah g.hds.length ch] #[.slice none 0 0, .slice none 0 0, .slice none 0 0, .slice none 0 0, .int .i64 0] lo Rb Vb ⟨.slice Ai g.ins.length ci, .int .i64 (V : Int), .int .i64 (K : Int), .slice Aa g.ars.length ca, .int .i64 0, .slice Ab g.blks.length cb, .slice Aq g.pts.length cp, .slice Ah g.hds.length ch⟩ va us (.slice (some ⟨Hb, 0, none⟩) 4 4) ⟨xs ++ List.replicate (V - xs.length) 0, (g.ars.map fun a => List.replicate a.2.toNat 0).take k⟩ 0 n wr)) (fun i _ _ => g.ars.length - (intOf i).toNat)
    case atStart => exact ⟨0, _, _, Nat.zero_le _, rfl, by rw [List.take_zero]; exact HZ2⟩
    case round =>
      clear HZ2
      obtain ⟨k, va, us, hk, rfl, HZ⟩ := hrel
      have q3 := HZ.out.gb.cell 3
      by_cases hlt : k < g.ars.length
      · have hlt' : (k : Int) < g.ars.length := by omega
        have hlt0 : (0 : Int) ≤ (k : Int) := by omega
        have hge : ¬ ((g.ars.length : Int) ≤ (k : Int)) := by omega
        obtain ⟨bo, off, rfl, hbo, -, x1⟩ := HAr.out k hlt
        replace x1 := (HZ.out.low.cell (p := ⟨bo, off + k * 2 + 1, none⟩) hbo).trans x1
        have hbw : bo < wr.heap.size := Nat.lt_of_lt_of_le hbo HZ.out.low.size
        have hsz := HAs.out k hlt
        obtain ⟨z, hz⟩ : ∃ z : Nat, (g.ars.getD k Gr.ar0).2 = (z : Int) := ⟨(g.ars.getD k Gr.ar0).2.toNat, by omega⟩
        have HZe := Lib.hid hz
        rw [hz] at x1 hsz
        have hmz := HMz.out z (by omega)
        clear hz
        have hbk : Below wr.heap.size wr (wr.alloc (.cells (slRow z (fun _ => .int .i64 0)) 3)) := bla (Below.refl _ _) _
        have hbk2 : Below (wr.alloc (.cells (slRow z (fun _ => .int .i64 0)) 3)).heap.size (wr.alloc (.cells (slRow z (fun _ => .int .i64 0)) 3)) ((wr.alloc (.cells (slRow z (fun _ => .int .i64 0)) 3)).alloc (.cells #[.slice (some ⟨wr.heap.size, 0, none⟩) z z] 32)) := bla (Below.refl _ _) _
        have HY := Lib.hid ((HZ.out.below hbk).below hbk2)
        have r9 := (HZ.out.below hbk).rn.rb.cell 9
        unfold rnC at r9
        have hlen : ((g.ars.map fun a => List.replicate a.2.toNat (0 : Int)).take k).length = k := by rw [List.length_take, List.length_map]; omega
        have HRow := Lib.hid (show World.ownsRow _ lo 32 1 va k us from by have h := HY.out.rn.ar.1; rwa [hlen] at h)
        have hrl := HZ.out.rn.rb.lt
        have hvl := HZ.out.rn.vb.lt
        clear hbk
        go_wp2_with (at_builtin; refine wpList_append_row rfl _ _ 37 rfl lo 32 iTL _ 1 24 Try.underlying37 HTL.out.1 HTL.out.2.1 HTL.out.2.2.1 HTL.out.2.2.2 rfl (by decide) _ _ _ rfl (HRow.out) _ _ _ rfl (lit_lst (wr.alloc (.cells (slRow z (fun _ => .int .i64 0)) 3)) (some ⟨wr.heap.size, 0, none⟩) z z _ (by rw [size_alloc])) ?qc3 ?qc4 ?qc5 ?qc6 ?_)
        case qc3 => first | rfl | (intro u hu; simp at hu; subst hu; rfl)
        case qc4 => unfold maxLen; omega
        case qc5 => omega
        case qc6 => have := HY.out.rn.rb.lt; have := HLw.out.1; omega
        intro v2 w3 hown hg hv
        obtain ⟨A2, C2, e2⟩ := own_eta hown
        subst e2
        have hO : ((wr.alloc (.cells (slRow z (fun _ => .int .i64 0)) 3)).alloc (.cells #[.slice (some ⟨wr.heap.size, 0, none⟩) z z] 32)).ownsRow wr.heap.size 3 1 (.slice (some ⟨wr.heap.size, 0, none⟩) z z) (List.replicate z (0 : Int)).length ((List.replicate z (0 : Int)).map (Value.int .i64)) := by
          have h := own_below (World.ownsRow_lit (e := 3) (size := 1) (base := wr.heap.size) wr (slRow z (fun _ => .int .i64 0)) z (Nat.le_refl _) (by unfold maxLen; omega) (by rw [slRow_size, Nat.mul_one])) hbk2
          rw [slRow_nums] at h ⊢
          rw [List.length_replicate]
          exact h
        have r9b := (bk_grown_t HY.out.rn.rb HY.out.rn.ar.1 (by decide) hg).cell 9
        unfold rnC at r9b
        have f9b := (bk_grown_t HY.out.rn.rb HY.out.rn.ar.1 (by decide) hg).frozen 9
        have hlb := (bk_grown_t HY.out.rn.rb HY.out.rn.ar.1 (by decide) hg).lt
        have HN := Lib.hid (HY.out.push (xv := .slice (some ⟨wr.heap.size, 0, none⟩) z z) (q := List.replicate z 0) (own_mono_b hO (by have := HLw.out.1; omega)) (fun y hy => by
          obtain ⟨i, hi, rfl⟩ := List.getElem_of_mem hy
          exact (ap_late (HZ.out.rn.ar.2.1 i _ (List.getElem?_eq_getElem hi)) hO).symm) (fun e => Nat.ne_of_gt hvl (by simpa [Value.ownBlock] using e)) (by show World.ownsRow _ _ _ _ _ (((g.ars.map fun a => List.replicate a.2.toNat (0 : Int)).take k).length + 1) _; rw [hlen]; exact hown) hg (by simpa using hv))
        have HN2 := Lib.hid (show Rp w #[.slice Ai g.ins.length ci, .int .i64 (V : Int), .int .i64 (K : Int), .slice (some ⟨bo, off, none⟩) g.ars.length ca, .int .i64 0, .slice Ab g.blks.length cb, .slice Aq g.pts.length cp, .slice Ah g.hds.length ch] #[.slice none 0 0, .slice none 0 0, .slice none 0 0, .slice none 0 0, .int .i64 0] lo Rb Vb ⟨.slice Ai g.ins.length ci, .int .i64 (V : Int), .int .i64 (K : Int), .slice (some ⟨bo, off, none⟩) g.ars.length ca, .int .i64 0, .slice Ab g.blks.length cb, .slice Aq g.pts.length cp, .slice Ah g.hds.length ch⟩ (.slice A2 (k + 1) C2) (us ++ [.slice (some ⟨wr.heap.size, 0, none⟩) z z]) (.slice (some ⟨Hb, 0, none⟩) 4 4) ⟨xs ++ List.replicate (V - xs.length) 0, (g.ars.map fun a => List.replicate a.2.toNat 0).take (k + 1)⟩ 0 n (w3.setCell ⟨Rb, 9, none⟩ (.slice A2 (k + 1) C2)) from by
          have h := HN.out
          rw [List.take_add_one, List.getElem?_map, getD_some Gr.ar0 hlt]
          simp only [Option.map_some, Option.toList_some]
          rw [HZe.out, Int.toNat_natCast]
          exact h)
        clear HN hown hg hv hO HY HRow hbk2 HZ r9 q3 x1 hmz hlen hrl hvl
        go_wp2
        clear r9b f9b hlb
        go_roundw
        case rel => exact ⟨k + 1, _, _, by omega, by first | rfl | go_num, HN2⟩
        case measure => simp [intOf]; omega
      · have hlt' : ¬ (k : Int) < g.ars.length := by omega
        obtain rfl : k = g.ars.length := by omega
        have HZ2 := Lib.hid (show Rp w #[.slice Ai g.ins.length ci, .int .i64 (V : Int), .int .i64 (K : Int), .slice Aa g.ars.length ca, .int .i64 0, .slice Ab g.blks.length cb, .slice Aq g.pts.length cp, .slice Ah g.hds.length ch] #[.slice none 0 0, .slice none 0 0, .slice none 0 0, .slice none 0 0, .int .i64 0] lo Rb Vb ⟨.slice Ai g.ins.length ci, .int .i64 (V : Int), .int .i64 (K : Int), .slice Aa g.ars.length ca, .int .i64 0, .slice Ab g.blks.length cb, .slice Aq g.pts.length cp, .slice Ah g.hds.length ch⟩ va us (.slice (some ⟨Hb, 0, none⟩) 4 4) (Tr.init V xs g.ars) 0 n wr from by
          have h := HZ.out
          rw [List.take_of_length_le (by rw [List.length_map]; exact Nat.le_refl _)] at h
          exact h)
        obtain ⟨gv, cv, hva⟩ := own_addr HZ2.out.rn.ar.1 (show 0 < (Tr.init V xs g.ars).ars.length by show 0 < (g.ars.map _).length; rw [List.length_map]; omega)
        rw [show (Tr.init V xs g.ars).ars.length = g.ars.length from List.length_map ..] at hva
        subst hva
        clear HZ
        have q5 := HZ2.out.gb.cell 5
        have hBl := HL.out.2.2.2.2.1
        have hmz := HMz.out g.blks.length (by omega)
        have hbk : Below wr.heap.size wr (wr.alloc (.cells (slRow g.blks.length (fun _ => .int .i64 0)) 3)) := bla (Below.refl _ _) _
        obtain ⟨Cb, hCb⟩ : ∃ Cb, wr.heap.size = Cb := ⟨_, rfl⟩
        have HT := Lib.hid (show (Rt w #[.slice Ai g.ins.length ci, .int .i64 (V : Int), .int .i64 (K : Int), .slice Aa g.ars.length ca, .int .i64 0, .slice Ab g.blks.length cb, .slice Aq g.pts.length cp, .slice Ah g.hds.length ch] #[.slice none 0 0, .slice none 0 0, .slice none 0 0, .slice none 0 0, .int .i64 0] lo Rb Vb Cb ⟨.slice Ai g.ins.length ci, .int .i64 (V : Int), .int .i64 (K : Int), .slice Aa g.ars.length ca, .int .i64 0, .slice Ab g.blks.length cb, .slice Aq g.pts.length cp, .slice Ah g.hds.length ch⟩ (.slice (some ⟨gv, 0, none⟩) g.ars.length cv) us (.slice (some ⟨Hb, 0, none⟩) 4 4) (Tr.its g (Tr.start g V xs n) 0).s (Tr.its g (Tr.start g V xs n) 0).cnt (Tr.its g (Tr.start g V xs n) 0).steps (Tr.its g (Tr.start g V xs n) 0).left (wr.alloc (.cells (slRow g.blks.length (fun _ => .int .i64 0)) 3))) from by
          have h := HZ2.out
          have hn := Bk.new wr 3 (slRow g.blks.length (fun _ => .int .i64 0))
          rw [slRow_nums] at hn
          have h1 := h.rn.vb.lt
          have h2 := h.zb.lt
          rw [hCb] at hn h1 h2
          refine ⟨(h.below hbk).low, (h.below hbk).gb, (h.below hbk).zb, (h.below hbk).rn, ?_, h.hl, h.hR, h.hV, by omega, by omega, fun z hz e => ?_⟩
          · rw [slRow_nums]; exact hn
          · obtain ⟨i, hi, rfl⟩ := List.getElem_of_mem hz
            have := ((h.rn.ar.2.1 i _ (List.getElem?_eq_getElem hi)).lt Cb e).2
            omega)
        skip
        go_upto_region 31 with fail
        try rw [hCb]
        generalize hW : wr.alloc (.cells (slRow g.blks.length (fun _ => .int .i64 0)) 3) = W2 at HT ⊢
        clear hW hbk hCb HZ2 q5 q3 hmz
        go_wp2
        go_loopw [18, 19, 20, 21] (fun i b k e wr => ∃ m : Nat, m ≤ N ∧ i = .int .i64 ((Tr.its g (Tr.start g V xs n) m).at_ : Int) ∧ Hid (Rt w #[.slice Ai g.ins.length ci, .int .i64 (V : Int), .int .i64 (K : Int), .slice Aa g.ars.length ca, .int .i64 0, .slice Ab g.blks.length cb, .slice Aq g.pts.length cp, .slice Ah g.hds.length ch] #[.slice none 0 0, .slice none 0 0, .slice none 0 0, .slice none 0 0, .int .i64 0] lo Rb Vb Cb ⟨.slice Ai g.ins.length ci, .int .i64 (V : Int), .int .i64 (K : Int), .slice Aa g.ars.length ca, .int .i64 0, .slice Ab g.blks.length cb, .slice Aq g.pts.length cp, .slice Ah g.hds.length ch⟩ (.slice (some ⟨gv, 0, none⟩) g.ars.length cv) us (.slice (some ⟨Hb, 0, none⟩) 4 4) (Tr.its g (Tr.start g V xs n) m).s (Tr.its g (Tr.start g V xs n) m).cnt (Tr.its g (Tr.start g V xs n) m).steps (Tr.its g (Tr.start g V xs n) m).left wr)) (fun _ _ _ _ wr => leftOf Rb wr)
        case atStart => exact ⟨0, Nat.zero_le _, rfl, HT⟩
        case round =>
          clear HT
          obtain ⟨m, hm, rfl, HT⟩ := hrel
          have hat := HGo.out.at_ m hm
          have hleft := HGo.out.left m hm
          have hst := Tr.its_steps g (Tr.start g V xs n) m
          have hs0 := Tr.its_steps0 g (Tr.start g V xs n) (Int.le_refl _) m
          have hcb := Tr.cnt_bd g (Tr.start g V xs n) (fun i => by show (List.replicate g.blks.length (0 : Int)).getD i 0 = 0; rw [List.getD, List.getElem?_replicate]; split <;> rfl) m (Tr.its g (Tr.start g V xs n) m).at_
          have hcl := Tr.its_cnt_len g (Tr.start g V xs n) m
          have hwf := Tr.its_wf (g := g) (V := V) (A := g.ars.length) (c := (Tr.start g V xs n)) HWf.out (fun k hk => (HOps.out k hk).2) HGo.out m hm
          replace hst : (Tr.its g (Tr.start g V xs n) m).steps + (Tr.its g (Tr.start g V xs n) m).left + m = n := by rw [hst]; show (0 : Int) + n = n; omega
          replace hcl : (Tr.its g (Tr.start g V xs n) m).cnt.length = g.blks.length := hcl.trans (List.length_replicate ..)
          obtain ⟨c, hc⟩ : ∃ c, Tr.its g (Tr.start g V xs n) m = c := ⟨_, rfl⟩
          have HCe := Lib.hid hc
          rw [hc] at HT hat hleft hst hs0 hcb hcl hwf ⊢
          clear hc
          obtain ⟨ct, cs, cc, cst, cl⟩ := c
          simp only at HT hat hleft hst hs0 hcb hcl hwf ⊢
          have HWF := Lib.hid hwf
          have hmo := HOps.out ct hat
          obtain ⟨b, hbe⟩ : ∃ b, Tr.blk g ct = b := ⟨_, rfl⟩
          have HBe := Lib.hid hbe
          rw [hbe] at hleft hmo
          have HMo := Lib.hid hmo
          obtain ⟨L, hL⟩ : ∃ L, b.ops.length = L := ⟨_, rfl⟩
          have HLe := Lib.hid hL
          rw [hL] at hleft
          have hat2 : (ct : Int) < g.blks.length := by omega
          have hat3 : (0 : Int) ≤ (ct : Int) := by omega
          obtain ⟨z0, hz0⟩ : ∃ z, cc.getD ct 0 = z := ⟨_, rfl⟩
          have HZ0 := Lib.hid hz0
          rw [hz0] at hcb
          have ez : wrap64 (z0 + 1) = z0 + 1 := IntWalk.wrap64_in _ (by omega)
          have hL1 : L ≤ 1000 := by have := hmo.1; omega
          have hcl2 : (cc.length : Int) = g.blks.length := by omega
          have HCl := Lib.hid hcl
          clear hwf hmo hbe hL hz0 hcl
          go_wp2_with fail
          refine (rone_any lo Rb Vb ⟨.slice Ai g.ins.length ci, .int .i64 (V : Int), .int .i64 (K : Int), .slice Aa g.ars.length ca, .int .i64 0, .slice Ab g.blks.length cb, .slice Aq g.pts.length cp, .slice Ah g.hds.length ch⟩ (.slice (some ⟨gv, 0, none⟩) g.ars.length cv) us (.slice (some ⟨Hb, 0, none⟩) 4 4) cs cst cl ⟨by omega, by omega⟩ wr HT.out.rn).mono ?_
          rintro e w1 ⟨rfl, hrn, hmv⟩
          have HT1 := Lib.hid (HT.out.mv hmv hrn)
          rw [show decide (1 ≤ cl) = true by simp; omega]
          clear hrn hmv
          have r0 := vs_cell HT1.out.cb (i := ct) (by rw [HCl.out]; exact hat)
          rw [HZ0.out] at r0
          have f0 := HT1.out.cb.frozen ct
          have hlo := HT1.out.cb.lt
          go_upto_region 35 with fail
          have HT2 := Lib.hid (HT1.out.count ct (z0 + 1))
          clear r0 f0 hlo HT1
          generalize hW : World.setCell w1 ⟨Cb, ct, none⟩ (.int .i64 (z0 + 1)) = W3 at HT2 ⊢
          clear hW
          obtain ⟨bo, off, rfl, hbo, x0, x1, x2, hops, hnx⟩ := HBl.out ct hat
          replace x0 := (HT2.out.low.cell (p := ⟨bo, off + ct * 3, none⟩) hbo).trans x0
          replace x1 := (HT2.out.low.cell (p := ⟨bo, off + ct * 3 + 1, none⟩) hbo).trans x1
          replace x2 := (HT2.out.low.cell (p := ⟨bo, off + ct * 3 + 2, none⟩) hbo).trans x2
          have hbw : bo < W3.heap.size := Nat.lt_of_lt_of_le hbo HT2.out.low.size
          have q5 := HT2.out.gb.cell 5
          have HOp := Lib.hid hops
          have HNe := Lib.hid hnx
          have hNx := HNx.out ct hat
          rw [show g.blks.getD ct Gr.blk0 = b from HBe.out] at x0 x1 x2 HOp HNe
          rw [HBe.out] at hNx
          have HNxb := Lib.hid hNx
          clear hops hnx hNx
          rw [HLe.out] at x0 HOp
          go_upto_region 36 with fail
          clear x0 x1 x2 q5
          obtain ⟨tb, htb⟩ : ∃ tb, W3.heap.size = tb := ⟨_, rfl⟩
          have HX3 := Lib.hid (show (Rt w #[.slice Ai g.ins.length ci, .int .i64 (V : Int), .int .i64 (K : Int), .slice Aa g.ars.length ca, .int .i64 0, .slice (some ⟨bo, off, none⟩) g.blks.length cb, .slice Aq g.pts.length cp, .slice Ah g.hds.length ch] #[.slice none 0 0, .slice none 0 0, .slice none 0 0, .slice none 0 0, .int .i64 0] lo Rb Vb Cb ⟨.slice Ai g.ins.length ci, .int .i64 (V : Int), .int .i64 (K : Int), .slice Aa g.ars.length ca, .int .i64 0, .slice (some ⟨bo, off, none⟩) g.blks.length cb, .slice Aq g.pts.length cp, .slice Ah g.hds.length ch⟩ (.slice (some ⟨gv, 0, none⟩) g.ars.length cv) us (.slice (some ⟨Hb, 0, none⟩) 4 4) (Tr.acts cs b.ops 0) (cc.set ct (z0 + 1)) (cst + ((0 : Nat) : Int)) (cl - 1 - ((0 : Nat) : Int)) (W3.alloc (.cells #[.slice (a1 ct) L (k1 ct), .int .i64 b.cond, .slice (a2 ct) b.next.length (k2 ct)] 34))) ∧ Bk (W3.alloc (.cells #[.slice (a1 ct) L (k1 ct), .int .i64 b.cond, .slice (a2 ct) b.next.length (k2 ct)] 34)) tb 34 #[.slice (a1 ct) L (k1 ct), .int .i64 b.cond, .slice (a2 ct) b.next.length (k2 ct)] ∧ tb ≠ Rb ∧ tb ≠ Vb ∧ ∀ z ∈ us, z.ownBlock ≠ some tb from by
            have h := Bk.new W3 34 #[.slice (a1 ct) L (k1 ct), .int .i64 b.cond, .slice (a2 ct) b.next.length (k2 ct)]
            have h1 := HT2.out.rn.rb.lt
            have h2 := HT2.out.rn.vb.lt
            have hu := HT2.out.rn.ar
            have hb : Below W3.heap.size W3 (W3.alloc (.cells #[.slice (a1 ct) L (k1 ct), .int .i64 b.cond, .slice (a2 ct) b.next.length (k2 ct)] 34)) := bla (Below.refl _ _) _
            refine ⟨by have h3 := HT2.out.below hb; rw [show cst + ((0 : Nat) : Int) = cst by omega, show cl - 1 - ((0 : Nat) : Int) = cl - 1 by omega]; exact h3, by rw [htb] at h; exact h, by omega, by omega, fun z hz e => ?_⟩
            obtain ⟨i, hi, rfl⟩ := List.getElem_of_mem hz
            have := ((hu.2.1 i _ (List.getElem?_eq_getElem hi)).lt tb e).2
            omega)
          rw [htb]
          generalize hW : W3.alloc (.cells #[.slice (a1 ct) L (k1 ct), .int .i64 b.cond, .slice (a2 ct) b.next.length (k2 ct)] 34) = W4 at HX3 ⊢
          clear hW htb HT2 hbw
          obtain ⟨cd, hcd⟩ : ∃ z, cc.set ct (z0 + 1) = z := ⟨_, rfl⟩
          have HCd := Lib.hid hcd
          rw [hcd] at HX3
          have HT0 := HT
          clear hcd HT
          go_wp2
          go_loopw [20, 21] (fun k e wr => ∃ j : Nat, j ≤ L ∧ k = .int .i64 j ∧ Hid ((Rt w #[.slice Ai g.ins.length ci, .int .i64 (V : Int), .int .i64 (K : Int), .slice Aa g.ars.length ca, .int .i64 0, .slice (some ⟨bo, off, none⟩) g.blks.length cb, .slice Aq g.pts.length cp, .slice Ah g.hds.length ch] #[.slice none 0 0, .slice none 0 0, .slice none 0 0, .slice none 0 0, .int .i64 0] lo Rb Vb Cb ⟨.slice Ai g.ins.length ci, .int .i64 (V : Int), .int .i64 (K : Int), .slice Aa g.ars.length ca, .int .i64 0, .slice (some ⟨bo, off, none⟩) g.blks.length cb, .slice Aq g.pts.length cp, .slice Ah g.hds.length ch⟩ (.slice (some ⟨gv, 0, none⟩) g.ars.length cv) us (.slice (some ⟨Hb, 0, none⟩) 4 4) (Tr.acts cs b.ops j) cd (cst + (j : Int)) (cl - 1 - (j : Int)) wr) ∧ Bk wr tb 34 #[.slice (a1 ct) L (k1 ct), .int .i64 b.cond, .slice (a2 ct) b.next.length (k2 ct)] ∧ tb ≠ Rb ∧ tb ≠ Vb ∧ ∀ z ∈ us, z.ownBlock ≠ some tb)) (fun k _ _ => L - (intOf k).toNat)
          case atStart => exact ⟨0, Nat.zero_le _, rfl, HX3⟩
          case round =>
            clear HX3
            rename_i wr0 _ _ _ _ _
            obtain ⟨j, hj, rfl, HX3⟩ := hrel
            have t0 := HX3.out.2.1.cell 0
            by_cases hlt : j < L
            · have hlt' : (j : Int) < L := by omega
              have hlt0 : (0 : Int) ≤ (j : Int) := by omega
              go_wp2_with fail
              refine (rone_any lo Rb Vb ⟨.slice Ai g.ins.length ci, .int .i64 (V : Int), .int .i64 (K : Int), .slice Aa g.ars.length ca, .int .i64 0, .slice (some ⟨bo, off, none⟩) g.blks.length cb, .slice Aq g.pts.length cp, .slice Ah g.hds.length ch⟩ (.slice (some ⟨gv, 0, none⟩) g.ars.length cv) us (.slice (some ⟨Hb, 0, none⟩) 4 4) (Tr.acts cs b.ops j) (cst + (j : Int)) (cl - 1 - (j : Int)) ⟨by omega, by omega⟩ _ HX3.out.1.rn).mono ?_
              rintro e w5 ⟨rfl, hrn, hmv⟩
              have HY := Lib.hid (And.intro (HX3.out.1.mv hmv hrn) (hmv.bk HX3.out.2.1 HX3.out.2.2.1 HX3.out.2.2.2.1 HX3.out.2.2.2.2))
              rw [show decide (1 ≤ cl - 1 - (j : Int)) = true by simp; omega]
              clear hrn hmv t0
              have t0 := HY.out.2.cell 0
              obtain ⟨Ao, co, eo, hoc⟩ := HOp.out.opened
              injection eo with eo1 eo2 eo3
              obtain ⟨b3, off3, e3, hb3, y0, y1, y2, y3, y4⟩ := hoc j (by rw [HLe.out]; exact hlt)
              rw [eo1, e3] at t0
              replace y0 := (HY.out.1.low.cell (p := ⟨b3, off3 + j * 5, none⟩) hb3).trans y0
              replace y1 := (HY.out.1.low.cell (p := ⟨b3, off3 + j * 5 + 1, none⟩) hb3).trans y1
              replace y2 := (HY.out.1.low.cell (p := ⟨b3, off3 + j * 5 + 2, none⟩) hb3).trans y2
              replace y3 := (HY.out.1.low.cell (p := ⟨b3, off3 + j * 5 + 3, none⟩) hb3).trans y3
              replace y4 := (HY.out.1.low.cell (p := ⟨b3, off3 + j * 5 + 4, none⟩) hb3).trans y4
              have hbw : b3 < w5.heap.size := Nat.lt_of_lt_of_le hb3 HY.out.1.low.size
              obtain ⟨o, ho⟩ : ∃ o, b.ops.getD j Gr.op0 = o := ⟨_, rfl⟩
              have HOe := Lib.hid ho
              rw [ho] at y0 y1 y2 y3 y4
              clear ho eo1 eo2 eo3 e3 hoc hb3
              have hwj := HWF.out.acts (l := b.ops) (fun k hk => HMo.out.2 k hk) j (by rw [HLe.out]; exact hj)
              have hoj := HMo.out.2 j (by rw [HLe.out]; exact hlt)
              rw [HOe.out] at hoj
              go_wp2_with fail
              refine (rdo_any lo Rb Vb ⟨.slice Ai g.ins.length ci, .int .i64 (V : Int), .int .i64 (K : Int), .slice Aa g.ars.length ca, .int .i64 0, .slice (some ⟨bo, off, none⟩) g.blks.length cb, .slice Aq g.pts.length cp, .slice Ah g.hds.length ch⟩ (.slice (some ⟨gv, 0, none⟩) g.ars.length cv) us (.slice (some ⟨Hb, 0, none⟩) 4 4) (Tr.acts cs b.ops j) (cst + (j : Int)) (cl - 1 - (j : Int) - 1) ⟨by omega, by omega⟩ o V g.ars.length hwj hoj _ HY.out.1.rn).mono ?_
              rintro e w6 ⟨rfl, hrn, hmv⟩
              have HN := Lib.hid (show (Rt w #[.slice Ai g.ins.length ci, .int .i64 (V : Int), .int .i64 (K : Int), .slice Aa g.ars.length ca, .int .i64 0, .slice (some ⟨bo, off, none⟩) g.blks.length cb, .slice Aq g.pts.length cp, .slice Ah g.hds.length ch] #[.slice none 0 0, .slice none 0 0, .slice none 0 0, .slice none 0 0, .int .i64 0] lo Rb Vb Cb ⟨.slice Ai g.ins.length ci, .int .i64 (V : Int), .int .i64 (K : Int), .slice Aa g.ars.length ca, .int .i64 0, .slice (some ⟨bo, off, none⟩) g.blks.length cb, .slice Aq g.pts.length cp, .slice Ah g.hds.length ch⟩ (.slice (some ⟨gv, 0, none⟩) g.ars.length cv) us (.slice (some ⟨Hb, 0, none⟩) 4 4) (Tr.acts cs b.ops (j + 1)) cd (cst + ((j + 1 : Nat) : Int)) (cl - 1 - ((j + 1 : Nat) : Int)) w6) ∧ Bk w6 tb 34 #[.slice (a1 ct) L (k1 ct), .int .i64 b.cond, .slice (a2 ct) b.next.length (k2 ct)] ∧ tb ≠ Rb ∧ tb ≠ Vb ∧ ∀ z ∈ us, z.ownBlock ≠ some tb from by
                refine ⟨?_, hmv.bk HY.out.2 HX3.out.2.2.1 HX3.out.2.2.2.1 HX3.out.2.2.2.2, HX3.out.2.2⟩
                have h := HY.out.1.mv hmv hrn
                rw [show Tr.acts cs b.ops (j + 1) = Tr.act (Tr.acts cs b.ops j) o by show Tr.act (Tr.acts cs b.ops j) (b.ops.getD j Gr.op0) = _; rw [HOe.out]]
                rw [show cst + ((j + 1 : Nat) : Int) = cst + (j : Int) + 1 by omega, show cl - 1 - ((j + 1 : Nat) : Int) = cl - 1 - (j : Int) - 1 by omega]
                exact h)
              clear hrn hmv HY HX3 hwj hoj y0 y1 y2 y3 y4 t0 hbw
              go_wp2
              go_roundw
              case rel => exact ⟨j + 1, by omega, by first | rfl | go_num, HN⟩
              case measure => simp [intOf]; omega
            · have hlt' : ¬ (j : Int) < L := by omega
              obtain rfl : L = j := by omega
              have HP := Lib.hid (show Tr.pass g (Tr.its g (Tr.start g V xs n) m) = ⟨ct, Tr.acts cs b.ops L, cd, cst + (L : Int), cl - 1 - (L : Int)⟩ by rw [HCe.out]; unfold Tr.pass; simp only; rw [HBe.out, HLe.out, HZ0.out, HCd.out])
              have HQ := Lib.hid HX3.out.1
              have hvl : (Tr.acts cs b.ops L).vs.length = V := (HWF.out.acts (l := b.ops) (fun k hk => HMo.out.2 k hk) L (by rw [HLe.out]; exact Nat.le_refl _)).vl
              have HVl := Lib.hid hvl
              clear hvl
              obtain ⟨nl, hnl⟩ : ∃ z, b.next.length = z := ⟨_, rfl⟩
              have HNl := Lib.hid hnl
              have HTb := Lib.hid (show Bk wr tb 34 #[.slice (a1 ct) L (k1 ct), .int .i64 b.cond, .slice (a2 ct) nl (k2 ct)] from by have h := HX3.out.2.1; rwa [hnl] at h)
              clear hnl HX3
              have t2 := HTb.out.cell 2
              by_cases hmN : m = N
              · subst hmN
                have hn0 : nl = 0 := by
                  have h := HGo.out.done
                  rw [HCe.out] at h
                  rw [← HNl.out, ← HBe.out]
                  exact h
                subst hn0
                go_upto_region 46 with fail
                clear t0 t2
                have hKV2 : (K : Int) ≤ (V : Int) := by omega
                have hK0 : (0 : Int) ≤ (K : Int) := by omega
                have hcv : g.ars.length ≤ cv := own_cap HQ.out.rn.ar.1
                have hcv2 : (g.ars.length : Int) ≤ (cv : Int) := by omega
                have hA0 : (0 : Int) ≤ (g.ars.length : Int) := by omega
                have hzb := HQ.out.zb.below (below_drewN _ wr 1)
                refine wp_region_last (S := (fun u : World => Bk u w.heap.size 40 #[.slice Ai g.ins.length ci, .int .i64 (V : Int), .int .i64 (K : Int), .slice Aa g.ars.length ca, .int .i64 0, .slice (some ⟨bo, off, none⟩) g.blks.length cb, .slice Aq g.pts.length cp, .slice Ah g.hds.length ch] ∧ Bk u Rb 67 (rnC ⟨.slice Ai g.ins.length ci, .int .i64 (V : Int), .int .i64 (K : Int), .slice Aa g.ars.length ca, .int .i64 0, .slice (some ⟨bo, off, none⟩) g.blks.length cb, .slice Aq g.pts.length cp, .slice Ah g.hds.length ch⟩ Vb (Tr.acts cs b.ops L).vs.length (.slice (some ⟨gv, 0, none⟩) g.ars.length cv) (.slice (some ⟨Hb, 0, none⟩) 4 4) (cst + (L : Int)) (cl - 1 - (L : Int))))) 25 (by kernel_rfl) ?_ (fun hHeld => ?_)
                · exact ⟨HQ.out.gb.below (below_drewN _ _ 1), HQ.out.rn.rb.below (below_drewN _ _ 1)⟩
                refine' wpAnyL_take (i := 0) (v := _) ?_ ?_ ?_ ?_ ?_ ?_ ?_ ?_ ?_
                rotate_left 2
                focus (simp only [List.getElem?_toArray, List.getElem?_cons_succ, List.getElem?_cons_zero]; rfl)
                focus kernel_rfl
                focus kernel_rfl
                focus kernel_rfl
                focus kernel_rfl
                focus exact (fun _ _ _ h => h)
                refine Or.inl ⟨?_, ?_⟩
                focus (go_simp; done)
                focus (intro w hSw; have q2 := hSw.1.cell 2; have m8 := hSw.2.cell 8; have m9 := hSw.2.cell 9; have m11 := hSw.2.cell 11; unfold rnC at m8 m9 m11; rw [HVl.out] at m8; have l1 := hSw.1.lt; have l2 := hSw.2.lt; (first | (go_simp; done) | (go_simp; with_reducible rfl)))
                focus assumption
                (try simp only [Act.put, List.setIfInBounds_toArray, List.set_cons_zero, List.set_cons_succ])
                refine' wpAnyL_take (i := 1) (v := _) ?_ ?_ ?_ ?_ ?_ ?_ ?_ ?_ ?_
                rotate_left 2
                focus (simp only [List.getElem?_toArray, List.getElem?_cons_succ, List.getElem?_cons_zero]; rfl)
                focus kernel_rfl
                focus kernel_rfl
                focus kernel_rfl
                focus kernel_rfl
                focus exact (fun _ _ _ h => h)
                refine Or.inl ⟨?_, ?_⟩
                focus (go_simp; done)
                focus (intro w hSw; have q2 := hSw.1.cell 2; have m8 := hSw.2.cell 8; have m9 := hSw.2.cell 9; have m11 := hSw.2.cell 11; unfold rnC at m8 m9 m11; rw [HVl.out] at m8; have l1 := hSw.1.lt; have l2 := hSw.2.lt; (first | (go_simp; done) | (go_simp; with_reducible rfl)))
                focus assumption
                (try simp only [Act.put, List.setIfInBounds_toArray, List.set_cons_zero, List.set_cons_succ])
                refine' wpAnyL_take (i := 2) (v := _) ?_ ?_ ?_ ?_ ?_ ?_ ?_ ?_ ?_
                rotate_left 2
                focus (simp only [List.getElem?_toArray, List.getElem?_cons_succ, List.getElem?_cons_zero]; rfl)
                focus kernel_rfl
                focus kernel_rfl
                focus kernel_rfl
                focus kernel_rfl
                focus exact (fun _ _ _ h => h)
                refine Or.inl ⟨?_, ?_⟩
                focus (go_simp; done)
                focus (intro w hSw; have q2 := hSw.1.cell 2; have m8 := hSw.2.cell 8; have m9 := hSw.2.cell 9; have m11 := hSw.2.cell 11; unfold rnC at m8 m9 m11; rw [HVl.out] at m8; have l1 := hSw.1.lt; have l2 := hSw.2.lt; (first | (go_simp; done) | (go_simp; with_reducible rfl)))
                focus assumption
                (try simp only [Act.put, List.setIfInBounds_toArray, List.set_cons_zero, List.set_cons_succ])
                refine' wpAnyL_take (i := 3) (v := _) ?_ ?_ ?_ ?_ ?_ ?_ ?_ ?_ ?_
                rotate_left 2
                focus (simp only [List.getElem?_toArray, List.getElem?_cons_succ, List.getElem?_cons_zero]; rfl)
                focus kernel_rfl
                focus kernel_rfl
                focus kernel_rfl
                focus kernel_rfl
                focus exact (fun _ _ _ h => h)
                refine Or.inl ⟨?_, ?_⟩
                focus (go_simp; done)
                focus (intro w hSw; have q2 := hSw.1.cell 2; have m8 := hSw.2.cell 8; have m9 := hSw.2.cell 9; have m11 := hSw.2.cell 11; unfold rnC at m8 m9 m11; rw [HVl.out] at m8; have l1 := hSw.1.lt; have l2 := hSw.2.lt; (first | (go_simp; done) | (go_simp; with_reducible rfl)))
                focus assumption
                (try simp only [Act.put, List.setIfInBounds_toArray, List.set_cons_zero, List.set_cons_succ])
                refine' wpAnyL_take (i := 4) (v := _) ?_ ?_ ?_ ?_ ?_ ?_ ?_ ?_ ?_
                rotate_left 2
                focus (simp only [List.getElem?_toArray, List.getElem?_cons_succ, List.getElem?_cons_zero]; rfl)
                focus kernel_rfl
                focus kernel_rfl
                focus kernel_rfl
                focus kernel_rfl
                focus exact (fun _ _ _ h => h)
                refine Or.inl ⟨?_, ?_⟩
                focus (go_simp; done)
                focus (intro w hSw; have q2 := hSw.1.cell 2; have m8 := hSw.2.cell 8; have m9 := hSw.2.cell 9; have m11 := hSw.2.cell 11; unfold rnC at m8 m9 m11; rw [HVl.out] at m8; have l1 := hSw.1.lt; have l2 := hSw.2.lt; (first | (go_simp; done) | (go_simp; with_reducible rfl)))
                focus assumption
                (try simp only [Act.put, List.setIfInBounds_toArray, List.set_cons_zero, List.set_cons_succ])
                refine' wpAnyL_take (i := 5) (v := _) ?_ ?_ ?_ ?_ ?_ ?_ ?_ ?_ ?_
                rotate_left 2
                focus (simp only [List.getElem?_toArray, List.getElem?_cons_succ, List.getElem?_cons_zero]; rfl)
                focus kernel_rfl
                focus kernel_rfl
                focus kernel_rfl
                focus kernel_rfl
                focus exact (fun _ _ _ h => h)
                refine Or.inl ⟨?_, ?_⟩
                focus (go_simp; done)
                focus (intro w hSw; have q2 := hSw.1.cell 2; have m8 := hSw.2.cell 8; have m9 := hSw.2.cell 9; have m11 := hSw.2.cell 11; unfold rnC at m8 m9 m11; rw [HVl.out] at m8; have l1 := hSw.1.lt; have l2 := hSw.2.lt; (first | (go_simp; done) | (go_simp; with_reducible rfl)))
                focus assumption
                (try simp only [Act.put, List.setIfInBounds_toArray, List.set_cons_zero, List.set_cons_succ])
                refine' wpAnyL_take (i := 6) (v := _) ?_ ?_ ?_ ?_ ?_ ?_ ?_ ?_ ?_
                rotate_left 2
                focus (simp only [List.getElem?_toArray, List.getElem?_cons_succ, List.getElem?_cons_zero]; rfl)
                focus kernel_rfl
                focus kernel_rfl
                focus kernel_rfl
                focus kernel_rfl
                focus exact (fun _ _ _ h => h)
                refine Or.inl ⟨?_, ?_⟩
                focus (go_simp; done)
                focus (intro w hSw; have q2 := hSw.1.cell 2; have m8 := hSw.2.cell 8; have m9 := hSw.2.cell 9; have m11 := hSw.2.cell 11; unfold rnC at m8 m9 m11; rw [HVl.out] at m8; have l1 := hSw.1.lt; have l2 := hSw.2.lt; (first | (go_simp; done) | (go_simp; with_reducible rfl)))
                focus assumption
                (try simp only [Act.put, List.setIfInBounds_toArray, List.set_cons_zero, List.set_cons_succ])
                refine' wpAnyL_take (i := 7) (v := _) ?_ ?_ ?_ ?_ ?_ ?_ ?_ ?_ ?_
                rotate_left 2
                focus (simp only [List.getElem?_toArray, List.getElem?_cons_succ, List.getElem?_cons_zero]; rfl)
                focus kernel_rfl
                focus kernel_rfl
                focus kernel_rfl
                focus kernel_rfl
                focus exact (fun _ _ _ h => h)
                refine Or.inl ⟨?_, ?_⟩
                focus (go_simp; done)
                focus (intro w hSw; have q2 := hSw.1.cell 2; have m8 := hSw.2.cell 8; have m9 := hSw.2.cell 9; have m11 := hSw.2.cell 11; unfold rnC at m8 m9 m11; rw [HVl.out] at m8; have l1 := hSw.1.lt; have l2 := hSw.2.lt; (first | (go_simp; done) | (go_simp; with_reducible rfl)))
                focus assumption
                (try simp only [Act.put, List.setIfInBounds_toArray, List.set_cons_zero, List.set_cons_succ])
                refine' wpAnyL_take (i := 8) (v := _) ?_ ?_ ?_ ?_ ?_ ?_ ?_ ?_ ?_
                rotate_left 2
                focus (simp only [List.getElem?_toArray, List.getElem?_cons_succ, List.getElem?_cons_zero]; rfl)
                focus kernel_rfl
                focus kernel_rfl
                focus kernel_rfl
                focus kernel_rfl
                focus exact (fun _ _ _ h => h)
                refine Or.inl ⟨?_, ?_⟩
                focus (go_simp; done)
                focus (intro w hSw; have q2 := hSw.1.cell 2; have m8 := hSw.2.cell 8; have m9 := hSw.2.cell 9; have m11 := hSw.2.cell 11; unfold rnC at m8 m9 m11; rw [HVl.out] at m8; have l1 := hSw.1.lt; have l2 := hSw.2.lt; (first | (go_simp; done) | (go_simp; with_reducible rfl)))
                focus assumption
                (try simp only [Act.put, List.setIfInBounds_toArray, List.set_cons_zero, List.set_cons_succ])
                refine' wpAnyL_take (i := 9) (v := _) ?_ ?_ ?_ ?_ ?_ ?_ ?_ ?_ ?_
                rotate_left 2
                focus (simp only [List.getElem?_toArray, List.getElem?_cons_succ, List.getElem?_cons_zero]; rfl)
                focus kernel_rfl
                focus kernel_rfl
                focus kernel_rfl
                focus kernel_rfl
                focus exact (fun _ _ _ h => h)
                refine Or.inl ⟨?_, ?_⟩
                focus (go_simp; done)
                focus (intro w hSw; have q2 := hSw.1.cell 2; have m8 := hSw.2.cell 8; have m9 := hSw.2.cell 9; have m11 := hSw.2.cell 11; unfold rnC at m8 m9 m11; rw [HVl.out] at m8; have l1 := hSw.1.lt; have l2 := hSw.2.lt; (first | (go_simp; done) | (go_simp; with_reducible rfl)))
                focus assumption
                (try simp only [Act.put, List.setIfInBounds_toArray, List.set_cons_zero, List.set_cons_succ])
                refine' wpAnyL_take (i := 10) (v := _) ?_ ?_ ?_ ?_ ?_ ?_ ?_ ?_ ?_
                rotate_left 2
                focus (simp only [List.getElem?_toArray, List.getElem?_cons_succ, List.getElem?_cons_zero]; rfl)
                focus kernel_rfl
                focus kernel_rfl
                focus kernel_rfl
                focus kernel_rfl
                focus exact (fun _ _ _ h => h)
                refine Or.inl ⟨?_, ?_⟩
                focus (go_simp; done)
                focus (intro w hSw; have q2 := hSw.1.cell 2; have m8 := hSw.2.cell 8; have m9 := hSw.2.cell 9; have m11 := hSw.2.cell 11; unfold rnC at m8 m9 m11; rw [HVl.out] at m8; have l1 := hSw.1.lt; have l2 := hSw.2.lt; (first | (go_simp; done) | (go_simp; with_reducible rfl)))
                focus assumption
                (try simp only [Act.put, List.setIfInBounds_toArray, List.set_cons_zero, List.set_cons_succ])
                refine' wpAnyL_take (i := 11) (v := _) ?_ ?_ ?_ ?_ ?_ ?_ ?_ ?_ ?_
                rotate_left 2
                focus (simp only [List.getElem?_toArray, List.getElem?_cons_succ, List.getElem?_cons_zero]; rfl)
                focus kernel_rfl
                focus kernel_rfl
                focus kernel_rfl
                focus kernel_rfl
                focus exact (fun _ _ _ h => h)
                refine Or.inl ⟨?_, ?_⟩
                focus (go_simp; done)
                focus (intro w hSw; have q2 := hSw.1.cell 2; have m8 := hSw.2.cell 8; have m9 := hSw.2.cell 9; have m11 := hSw.2.cell 11; unfold rnC at m8 m9 m11; rw [HVl.out] at m8; have l1 := hSw.1.lt; have l2 := hSw.2.lt; (first | (go_simp; done) | (go_simp; with_reducible rfl)))
                focus assumption
                (try simp only [Act.put, List.setIfInBounds_toArray, List.set_cons_zero, List.set_cons_succ])
                refine' wpAnyL_take (i := 12) (v := _) ?_ ?_ ?_ ?_ ?_ ?_ ?_ ?_ ?_
                rotate_left 2
                focus (simp only [List.getElem?_toArray, List.getElem?_cons_succ, List.getElem?_cons_zero]; rfl)
                focus kernel_rfl
                focus kernel_rfl
                focus kernel_rfl
                focus kernel_rfl
                focus exact (fun _ _ _ h => h)
                refine Or.inl ⟨?_, ?_⟩
                focus (go_simp; done)
                focus (intro w hSw; have q2 := hSw.1.cell 2; have m8 := hSw.2.cell 8; have m9 := hSw.2.cell 9; have m11 := hSw.2.cell 11; unfold rnC at m8 m9 m11; rw [HVl.out] at m8; have l1 := hSw.1.lt; have l2 := hSw.2.lt; (first | (go_simp; done) | (go_simp; with_reducible rfl)))
                focus assumption
                (try simp only [Act.put, List.setIfInBounds_toArray, List.set_cons_zero, List.set_cons_succ])
                refine' wpAnyL_take (i := 13) (v := _) ?_ ?_ ?_ ?_ ?_ ?_ ?_ ?_ ?_
                rotate_left 2
                focus (simp only [List.getElem?_toArray, List.getElem?_cons_succ, List.getElem?_cons_zero]; rfl)
                focus kernel_rfl
                focus kernel_rfl
                focus kernel_rfl
                focus kernel_rfl
                focus exact (fun _ _ _ h => h)
                refine Or.inl ⟨?_, ?_⟩
                focus (go_simp; done)
                focus (intro w hSw; have q2 := hSw.1.cell 2; have m8 := hSw.2.cell 8; have m9 := hSw.2.cell 9; have m11 := hSw.2.cell 11; unfold rnC at m8 m9 m11; rw [HVl.out] at m8; have l1 := hSw.1.lt; have l2 := hSw.2.lt; (first | (go_simp; done) | (go_simp; with_reducible rfl)))
                focus assumption
                (try simp only [Act.put, List.setIfInBounds_toArray, List.set_cons_zero, List.set_cons_succ])
                refine' wpAnyL_take (i := 14) (v := _) ?_ ?_ ?_ ?_ ?_ ?_ ?_ ?_ ?_
                rotate_left 2
                focus (simp only [List.getElem?_toArray, List.getElem?_cons_succ, List.getElem?_cons_zero]; rfl)
                focus kernel_rfl
                focus kernel_rfl
                focus kernel_rfl
                focus kernel_rfl
                focus exact (fun _ _ _ h => h)
                refine Or.inl ⟨?_, ?_⟩
                focus (go_simp; done)
                focus (intro w hSw; have q2 := hSw.1.cell 2; have m8 := hSw.2.cell 8; have m9 := hSw.2.cell 9; have m11 := hSw.2.cell 11; unfold rnC at m8 m9 m11; rw [HVl.out] at m8; have l1 := hSw.1.lt; have l2 := hSw.2.lt; (first | (go_simp; done) | (go_simp; with_reducible rfl)))
                focus assumption
                (try simp only [Act.put, List.setIfInBounds_toArray, List.set_cons_zero, List.set_cons_succ])
                refine' wpAnyL_take (i := 15) (v := _) ?_ ?_ ?_ ?_ ?_ ?_ ?_ ?_ ?_
                rotate_left 2
                focus (simp only [List.getElem?_toArray, List.getElem?_cons_succ, List.getElem?_cons_zero]; rfl)
                focus kernel_rfl
                focus kernel_rfl
                focus kernel_rfl
                focus kernel_rfl
                focus exact (fun _ _ _ h => h)
                refine Or.inl ⟨?_, ?_⟩
                focus (go_simp; done)
                focus (intro w hSw; have q2 := hSw.1.cell 2; have m8 := hSw.2.cell 8; have m9 := hSw.2.cell 9; have m11 := hSw.2.cell 11; unfold rnC at m8 m9 m11; rw [HVl.out] at m8; have l1 := hSw.1.lt; have l2 := hSw.2.lt; (first | (go_simp; done) | (go_simp; with_reducible rfl)))
                focus assumption
                (try simp only [Act.put, List.setIfInBounds_toArray, List.set_cons_zero, List.set_cons_succ])
                refine' wpAnyL_take (i := 16) (v := _) ?_ ?_ ?_ ?_ ?_ ?_ ?_ ?_ ?_
                rotate_left 2
                focus (simp only [List.getElem?_toArray, List.getElem?_cons_succ, List.getElem?_cons_zero]; rfl)
                focus kernel_rfl
                focus kernel_rfl
                focus kernel_rfl
                focus kernel_rfl
                focus exact (fun _ _ _ h => h)
                refine Or.inl ⟨?_, ?_⟩
                focus (go_simp; done)
                focus (intro w hSw; have q2 := hSw.1.cell 2; have m8 := hSw.2.cell 8; have m9 := hSw.2.cell 9; have m11 := hSw.2.cell 11; unfold rnC at m8 m9 m11; rw [HVl.out] at m8; have l1 := hSw.1.lt; have l2 := hSw.2.lt; (first | (go_simp; done) | (go_simp; with_reducible rfl)))
                focus assumption
                (try simp only [Act.put, List.setIfInBounds_toArray, List.set_cons_zero, List.set_cons_succ])
                refine' wpAnyL_take (i := 17) (v := _) ?_ ?_ ?_ ?_ ?_ ?_ ?_ ?_ ?_
                rotate_left 2
                focus (simp only [List.getElem?_toArray, List.getElem?_cons_succ, List.getElem?_cons_zero]; rfl)
                focus kernel_rfl
                focus kernel_rfl
                focus kernel_rfl
                focus kernel_rfl
                focus exact (fun _ _ _ h => h)
                refine Or.inl ⟨?_, ?_⟩
                focus (go_simp; done)
                focus (intro w hSw; have q2 := hSw.1.cell 2; have m8 := hSw.2.cell 8; have m9 := hSw.2.cell 9; have m11 := hSw.2.cell 11; unfold rnC at m8 m9 m11; rw [HVl.out] at m8; have l1 := hSw.1.lt; have l2 := hSw.2.lt; (first | (go_simp; done) | (go_simp; with_reducible rfl)))
                focus assumption
                (try simp only [Act.put, List.setIfInBounds_toArray, List.set_cons_zero, List.set_cons_succ])
                refine' wpAnyL_take (i := 18) (v := _) ?_ ?_ ?_ ?_ ?_ ?_ ?_ ?_ ?_
                rotate_left 2
                focus (simp only [List.getElem?_toArray, List.getElem?_cons_succ, List.getElem?_cons_zero]; rfl)
                focus kernel_rfl
                focus kernel_rfl
                focus kernel_rfl
                focus kernel_rfl
                focus exact (fun _ _ _ h => h)
                refine Or.inl ⟨?_, ?_⟩
                focus (go_simp; done)
                focus (intro w hSw; have q2 := hSw.1.cell 2; have m8 := hSw.2.cell 8; have m9 := hSw.2.cell 9; have m11 := hSw.2.cell 11; unfold rnC at m8 m9 m11; rw [HVl.out] at m8; have l1 := hSw.1.lt; have l2 := hSw.2.lt; (first | (go_simp; done) | (go_simp; with_reducible rfl)))
                focus assumption
                (try simp only [Act.put, List.setIfInBounds_toArray, List.set_cons_zero, List.set_cons_succ])
                refine' wpAnyL_take (i := 19) (v := _) ?_ ?_ ?_ ?_ ?_ ?_ ?_ ?_ ?_
                rotate_left 2
                focus (simp only [List.getElem?_toArray, List.getElem?_cons_succ, List.getElem?_cons_zero]; rfl)
                focus kernel_rfl
                focus kernel_rfl
                focus kernel_rfl
                focus kernel_rfl
                focus exact (fun _ _ _ h => h)
                refine Or.inl ⟨?_, ?_⟩
                focus (go_simp; done)
                focus (intro w hSw; have q2 := hSw.1.cell 2; have m8 := hSw.2.cell 8; have m9 := hSw.2.cell 9; have m11 := hSw.2.cell 11; unfold rnC at m8 m9 m11; rw [HVl.out] at m8; have l1 := hSw.1.lt; have l2 := hSw.2.lt; (first | (go_simp; done) | (go_simp; with_reducible rfl)))
                focus assumption
                (try simp only [Act.put, List.setIfInBounds_toArray, List.set_cons_zero, List.set_cons_succ])
                refine' wpAnyL_take (i := 20) (v := _) ?_ ?_ ?_ ?_ ?_ ?_ ?_ ?_ ?_
                rotate_left 2
                focus (simp only [List.getElem?_toArray, List.getElem?_cons_succ, List.getElem?_cons_zero]; rfl)
                focus kernel_rfl
                focus kernel_rfl
                focus kernel_rfl
                focus kernel_rfl
                focus exact (fun _ _ _ h => h)
                refine Or.inl ⟨?_, ?_⟩
                focus (go_simp; done)
                focus (intro w hSw; have q2 := hSw.1.cell 2; have m8 := hSw.2.cell 8; have m9 := hSw.2.cell 9; have m11 := hSw.2.cell 11; unfold rnC at m8 m9 m11; rw [HVl.out] at m8; have l1 := hSw.1.lt; have l2 := hSw.2.lt; (first | (go_simp; done) | (go_simp; with_reducible rfl)))
                focus assumption
                (try simp only [Act.put, List.setIfInBounds_toArray, List.set_cons_zero, List.set_cons_succ])
                refine' wpAnyL_take (i := 21) (v := _) ?_ ?_ ?_ ?_ ?_ ?_ ?_ ?_ ?_
                rotate_left 2
                focus (simp only [List.getElem?_toArray, List.getElem?_cons_succ, List.getElem?_cons_zero]; rfl)
                focus kernel_rfl
                focus kernel_rfl
                focus kernel_rfl
                focus kernel_rfl
                focus exact (fun _ _ _ h => h)
                refine Or.inl ⟨?_, ?_⟩
                focus (go_simp; done)
                focus (intro w hSw; have q2 := hSw.1.cell 2; have m8 := hSw.2.cell 8; have m9 := hSw.2.cell 9; have m11 := hSw.2.cell 11; unfold rnC at m8 m9 m11; rw [HVl.out] at m8; have l1 := hSw.1.lt; have l2 := hSw.2.lt; (first | (go_simp; done) | (go_simp; with_reducible rfl)))
                focus assumption
                (try simp only [Act.put, List.setIfInBounds_toArray, List.set_cons_zero, List.set_cons_succ])
                refine' wpAnyL_take (i := 22) (v := _) ?_ ?_ ?_ ?_ ?_ ?_ ?_ ?_ ?_
                rotate_left 2
                focus (simp only [List.getElem?_toArray, List.getElem?_cons_succ, List.getElem?_cons_zero]; rfl)
                focus kernel_rfl
                focus kernel_rfl
                focus kernel_rfl
                focus kernel_rfl
                focus exact (fun _ _ _ h => h)
                refine Or.inl ⟨?_, ?_⟩
                focus (go_simp; done)
                focus (intro w hSw; have q2 := hSw.1.cell 2; have m8 := hSw.2.cell 8; have m9 := hSw.2.cell 9; have m11 := hSw.2.cell 11; unfold rnC at m8 m9 m11; rw [HVl.out] at m8; have l1 := hSw.1.lt; have l2 := hSw.2.lt; (first | (go_simp; done) | (go_simp; with_reducible rfl)))
                focus assumption
                (try simp only [Act.put, List.setIfInBounds_toArray, List.set_cons_zero, List.set_cons_succ])
                refine' wpAnyL_take (i := 23) (v := _) ?_ ?_ ?_ ?_ ?_ ?_ ?_ ?_ ?_
                rotate_left 2
                focus (simp only [List.getElem?_toArray, List.getElem?_cons_succ, List.getElem?_cons_zero]; rfl)
                focus kernel_rfl
                focus kernel_rfl
                focus kernel_rfl
                focus kernel_rfl
                focus exact (fun _ _ _ h => h)
                refine Or.inl ⟨?_, ?_⟩
                focus (go_simp; done)
                focus (intro w hSw; have q2 := hSw.1.cell 2; have m8 := hSw.2.cell 8; have m9 := hSw.2.cell 9; have m11 := hSw.2.cell 11; unfold rnC at m8 m9 m11; rw [HVl.out] at m8; have l1 := hSw.1.lt; have l2 := hSw.2.lt; (first | (go_simp; done) | (go_simp; with_reducible rfl)))
                focus assumption
                (try simp only [Act.put, List.setIfInBounds_toArray, List.set_cons_zero, List.set_cons_succ])
                refine' wpAnyL_take (i := 24) (v := _) ?_ ?_ ?_ ?_ ?_ ?_ ?_ ?_ ?_
                rotate_left 2
                focus (simp only [List.getElem?_toArray, List.getElem?_cons_succ, List.getElem?_cons_zero]; rfl)
                focus kernel_rfl
                focus kernel_rfl
                focus kernel_rfl
                focus kernel_rfl
                focus exact (fun _ _ _ h => h)
                refine Or.inl ⟨?_, ?_⟩
                focus (go_simp; done)
                focus (intro w hSw; have q2 := hSw.1.cell 2; have m8 := hSw.2.cell 8; have m9 := hSw.2.cell 9; have m11 := hSw.2.cell 11; unfold rnC at m8 m9 m11; rw [HVl.out] at m8; have l1 := hSw.1.lt; have l2 := hSw.2.lt; (first | (go_simp; done) | (go_simp; with_reducible rfl)))
                focus assumption
                (try simp only [Act.put, List.setIfInBounds_toArray, List.set_cons_zero, List.set_cons_succ])
                refine' wpAnyL_last ?_ ?_ (fun K hK => ?_)
                rotate_left
                focus kernel_rfl
                focus (simp only [List.getElem?_toArray, List.getElem?_cons_succ, List.getElem?_cons_zero]; rfl)
                have z0 := HQ.out.zb.cell 0
                have f0 := HQ.out.zb.frozen 0
                have z1 := HQ.out.zb.cell 1
                have f1 := HQ.out.zb.frozen 1
                have z2 := HQ.out.zb.cell 2
                have f2 := HQ.out.zb.frozen 2
                have z3 := HQ.out.zb.cell 3
                have f3 := HQ.out.zb.frozen 3
                have z4 := HQ.out.zb.cell 4
                have f4 := HQ.out.zb.frozen 4
                have zd0 := (show Bk wr.drew (w.heap.size + 1) _ _ from hzb).cell 0
                have fd0 := (show Bk wr.drew (w.heap.size + 1) _ _ from hzb).frozen 0
                have zd1 := (show Bk wr.drew (w.heap.size + 1) _ _ from hzb).cell 1
                have fd1 := (show Bk wr.drew (w.heap.size + 1) _ _ from hzb).frozen 1
                have zd2 := (show Bk wr.drew (w.heap.size + 1) _ _ from hzb).cell 2
                have fd2 := (show Bk wr.drew (w.heap.size + 1) _ _ from hzb).frozen 2
                have zd3 := (show Bk wr.drew (w.heap.size + 1) _ _ from hzb).cell 3
                have fd3 := (show Bk wr.drew (w.heap.size + 1) _ _ from hzb).frozen 3
                have zd4 := (show Bk wr.drew (w.heap.size + 1) _ _ from hzb).cell 4
                have fd4 := (show Bk wr.drew (w.heap.size + 1) _ _ from hzb).frozen 4
                have hlo := (show Bk wr.drew (w.heap.size + 1) _ _ from hzb).lt
                have hlo2 := HQ.out.zb.lt
                go_simp
                refine hK.out _ _ ?_
                clear hK K
                (try simp only [Act.put, List.setIfInBounds_toArray, List.set_cons_zero, List.set_cons_succ])
                refine wpAny_ready (rs := [26]) (by kernel_rfl) (by simp) ?_
                refine' AllReady.cons ?_ (fun K hK => ?_) AllReady.nil
                rotate_left
                focus (simp only [List.getElem?_toArray, List.getElem?_cons_succ, List.getElem?_cons_zero]; rfl)
                go_simp
                refine hK _ _ ?_
                clear hK K
                (try simp only [Act.put, List.setIfInBounds_toArray, List.set_cons_zero, List.set_cons_succ])
                refine wpAny_done (by kernel_rfl) ?_ _
                clear z0 zd0 fd0 f0 z1 zd1 fd1 f1 z2 zd2 fd2 f2 z3 zd3 fd3 f3 z4 zd4 fd4 f4 hlo hlo2 hHeld
                generalize hv3 : Value.slice (if cv = g.ars.length then some ⟨gv, 0, none⟩ else some ⟨gv, g.ars.length, none⟩) 0 (cv - g.ars.length) = v3
                have HL3 := Lib.hid (show ∃ A3 c3, v3 = .slice A3 0 c3 from ⟨_, _, hv3.symm⟩)
                clear hv3
                have HE := Lib.hid (show (Rt w #[.slice Ai g.ins.length ci, .int .i64 (V : Int), .int .i64 (K : Int), .slice Aa g.ars.length ca, .int .i64 0, .slice (some ⟨bo, off, none⟩) g.blks.length cb, .slice Aq g.pts.length cp, .slice Ah g.hds.length ch] #[.slice (some ⟨Vb, 0, none⟩) K V, .slice (some ⟨gv, 0, none⟩) g.ars.length cv, v3, .slice (some ⟨Cb, 0, none⟩) g.blks.length g.blks.length, .int .i64 (cst + (L : Int))] lo Rb Vb Cb ⟨.slice Ai g.ins.length ci, .int .i64 (V : Int), .int .i64 (K : Int), .slice Aa g.ars.length ca, .int .i64 0, .slice (some ⟨bo, off, none⟩) g.blks.length cb, .slice Aq g.pts.length cp, .slice Ah g.hds.length ch⟩ (.slice (some ⟨gv, 0, none⟩) g.ars.length cv) us (.slice (some ⟨Hb, 0, none⟩) 4 4) (Tr.acts cs b.ops L) cd (cst + (L : Int)) (cl - 1 - (L : Int)) ((((((wr.setCell ⟨w.heap.size + 1, 0, none⟩ (.slice (some ⟨Vb, 0, none⟩) K V)).setCell ⟨w.heap.size + 1, 1, none⟩ (.slice (some ⟨gv, 0, none⟩) g.ars.length cv)).setCell ⟨w.heap.size + 1, 2, none⟩ v3).setCell ⟨w.heap.size + 1, 3, none⟩ (.slice (some ⟨Cb, 0, none⟩) g.blks.length g.blks.length)).setCell ⟨w.heap.size + 1, 4, none⟩ (.int .i64 (cst + (L : Int)))).drew)) from ((((((HQ.out.res 0 (.slice (some ⟨Vb, 0, none⟩) K V)).res 1 (.slice (some ⟨gv, 0, none⟩) g.ars.length cv)).res 2 v3).res 3 (.slice (some ⟨Cb, 0, none⟩) g.blks.length g.blks.length)).res 4 (.int .i64 (cst + (L : Int))))).below (below_drewN _ _ 1))
                clear HQ hzb
                generalize hW : (World.setCell _ ⟨w.heap.size + 1, 4, none⟩ (.int .i64 (cst + (L : Int)))).drew = W5 at HE ⊢
                clear hW
                have z0 := HE.out.zb.cell 0
                have z1 := HE.out.zb.cell 1
                have z2 := HE.out.zb.cell 2
                have z3 := HE.out.zb.cell 3
                have z4 := HE.out.zb.cell 4
                go_wp2
                refine bodyPost_ret (v := .tuple #[.agg #[.slice (some ⟨Vb, 0, none⟩) K V, .slice (some ⟨gv, 0, none⟩) g.ars.length cv, v3, .slice (some ⟨Cb, 0, none⟩) g.blks.length g.blks.length, .int .i64 (cst + (L : Int))], .int .i64 0]) (by simp [results, Try.results9, go_sem, z0, z1, z2, z3, z4]) rfl ?_
                rw [HP.out]
                obtain ⟨A3, c3, e3⟩ := HL3.out
                have h1 : NumsIn W5 (.slice (some ⟨Vb, 0, none⟩) K V) ((Tr.acts cs b.ops L).vs.take K) := nums_part HE.out.rn.vb (by rw [HVl.out]; exact hKV)
                have h2 : LstsIn W5 (.slice (some ⟨gv, 0, none⟩) g.ars.length cv) (Tr.acts cs b.ops L).ars := HE.out.rn.ar.lsts
                have h3 : LstsIn W5 v3 [] := ⟨A3, c3, e3, fun i hi => absurd hi (Nat.not_lt_zero _)⟩
                have h4 : NumsIn W5 (.slice (some ⟨Cb, 0, none⟩) g.blks.length g.blks.length) cd := nums_bkl HE.out.cb (by rw [← HCd.out, List.length_set]; exact HCl.out)
                exact ⟨_, _, _, _, rfl, HE.out.low, h1, h2, h3, h4⟩
              · have hlt2 : m < N := by omega
                have h12 : nl = 1 ∨ nl = 2 := by
                  have h := HGo.out.more m hlt2
                  rw [HCe.out] at h
                  rw [← HNl.out, ← HBe.out]
                  exact h
                have HMl := Lib.hid hlt2
                clear hlt2 hmN
                rcases h12 with h1 | h2
                · skip
                  subst h1
                  go_upto_region 47 with fail
                  refine wp_region_held_drew (S := (fun u : World => Bk u tb 34 #[.slice (a1 ct) L (k1 ct), .int .i64 b.cond, .slice (a2 ct) 1 (k2 ct)])) (by kernel_rfl) (HTb.out.below (below_drewN _ _ 1)) (fun hHeld => ?_)
                  refine' wpAnyH_take (i := 0) (v := _) ?_ ?_ ?_ ?_ ?_ ?_ ?_ ?_
                  rotate_left 2
                  focus (simp only [List.getElem?_toArray, List.getElem?_cons_succ, List.getElem?_cons_zero]; rfl)
                  focus kernel_rfl
                  focus kernel_rfl
                  focus kernel_rfl
                  focus exact (fun _ _ _ h => h)
                  refine Or.inl ⟨?_, ?_⟩
                  focus (go_simp; done)
                  focus (intro w hSw; have r2 := hSw.cell 2; have l1 := hSw.lt; (first | (go_simp; done) | (go_simp; with_reducible rfl)))
                  focus assumption
                  (try simp only [Act.put, List.setIfInBounds_toArray, List.set_cons_zero, List.set_cons_succ])
                  refine' wpAnyH_take (i := 1) (v := _) ?_ ?_ ?_ ?_ ?_ ?_ ?_ ?_
                  rotate_left 2
                  focus (simp only [List.getElem?_toArray, List.getElem?_cons_succ, List.getElem?_cons_zero]; rfl)
                  focus kernel_rfl
                  focus kernel_rfl
                  focus kernel_rfl
                  focus exact (fun _ _ _ h => h)
                  refine Or.inl ⟨?_, ?_⟩
                  focus (go_simp; done)
                  focus (intro w hSw; have r2 := hSw.cell 2; have l1 := hSw.lt; (first | (go_simp; done) | (go_simp; with_reducible rfl)))
                  focus assumption
                  (try simp only [Act.put, List.setIfInBounds_toArray, List.set_cons_zero, List.set_cons_succ])
                  refine' wpAnyH_take (i := 2) (v := _) ?_ ?_ ?_ ?_ ?_ ?_ ?_ ?_
                  rotate_left 2
                  focus (simp only [List.getElem?_toArray, List.getElem?_cons_succ, List.getElem?_cons_zero]; rfl)
                  focus kernel_rfl
                  focus kernel_rfl
                  focus kernel_rfl
                  focus exact (fun _ _ _ h => h)
                  refine Or.inl ⟨?_, ?_⟩
                  focus (go_simp; done)
                  focus (intro w hSw; have r2 := hSw.cell 2; have l1 := hSw.lt; (first | (go_simp; done) | (go_simp; with_reducible rfl)))
                  focus assumption
                  (try simp only [Act.put, List.setIfInBounds_toArray, List.set_cons_zero, List.set_cons_succ])
                  refine' wpAnyH_take (i := 3) (v := _) ?_ ?_ ?_ ?_ ?_ ?_ ?_ ?_
                  rotate_left 2
                  focus (simp only [List.getElem?_toArray, List.getElem?_cons_succ, List.getElem?_cons_zero]; rfl)
                  focus kernel_rfl
                  focus kernel_rfl
                  focus kernel_rfl
                  focus exact (fun _ _ _ h => h)
                  refine Or.inl ⟨?_, ?_⟩
                  focus (go_simp; done)
                  focus (intro w hSw; have r2 := hSw.cell 2; have l1 := hSw.lt; (first | (go_simp; done) | (go_simp; with_reducible rfl)))
                  focus assumption
                  (try simp only [Act.put, List.setIfInBounds_toArray, List.set_cons_zero, List.set_cons_succ])
                  refine' wpAnyH_take (i := 4) (v := _) ?_ ?_ ?_ ?_ ?_ ?_ ?_ ?_
                  rotate_left 2
                  focus (simp only [List.getElem?_toArray, List.getElem?_cons_succ, List.getElem?_cons_zero]; rfl)
                  focus kernel_rfl
                  focus kernel_rfl
                  focus kernel_rfl
                  focus exact (fun _ _ _ h => h)
                  refine Or.inl ⟨?_, ?_⟩
                  focus (go_simp; done)
                  focus (intro w hSw; have r2 := hSw.cell 2; have l1 := hSw.lt; (first | (go_simp; done) | (go_simp; with_reducible rfl)))
                  focus assumption
                  (try simp only [Act.put, List.setIfInBounds_toArray, List.set_cons_zero, List.set_cons_succ])
                  refine' wpAnyH_take (i := 5) (v := undef) ?_ ?_ ?_ ?_ ?_ ?_ ?_ ?_
                  rotate_left 1
                  focus (simp only [List.getElem?_toArray, List.getElem?_cons_succ, List.getElem?_cons_zero]; rfl)
                  focus kernel_rfl
                  focus kernel_rfl
                  focus kernel_rfl
                  focus exact (fun _ _ _ h => h)
                  refine Or.inr ⟨?_, rfl⟩
                  focus (go_simp; done)
                  focus assumption
                  (try simp only [Act.put, List.setIfInBounds_toArray, List.set_cons_zero, List.set_cons_succ])
                  refine' wpAnyH_take (i := 6) (v := undef) ?_ ?_ ?_ ?_ ?_ ?_ ?_ ?_
                  rotate_left 1
                  focus (simp only [List.getElem?_toArray, List.getElem?_cons_succ, List.getElem?_cons_zero]; rfl)
                  focus kernel_rfl
                  focus kernel_rfl
                  focus kernel_rfl
                  focus exact (fun _ _ _ h => h)
                  refine Or.inr ⟨?_, rfl⟩
                  focus (go_simp; done)
                  focus assumption
                  (try simp only [Act.put, List.setIfInBounds_toArray, List.set_cons_zero, List.set_cons_succ])
                  refine' wpAnyH_take (i := 7) (v := undef) ?_ ?_ ?_ ?_ ?_ ?_ ?_ ?_
                  rotate_left 1
                  focus (simp only [List.getElem?_toArray, List.getElem?_cons_succ, List.getElem?_cons_zero]; rfl)
                  focus kernel_rfl
                  focus kernel_rfl
                  focus kernel_rfl
                  focus exact (fun _ _ _ h => h)
                  refine Or.inr ⟨?_, rfl⟩
                  focus (go_simp; done)
                  focus assumption
                  (try simp only [Act.put, List.setIfInBounds_toArray, List.set_cons_zero, List.set_cons_succ])
                  refine' wpAnyH_take (i := 8) (v := undef) ?_ ?_ ?_ ?_ ?_ ?_ ?_ ?_
                  rotate_left 1
                  focus (simp only [List.getElem?_toArray, List.getElem?_cons_succ, List.getElem?_cons_zero]; rfl)
                  focus kernel_rfl
                  focus kernel_rfl
                  focus kernel_rfl
                  focus exact (fun _ _ _ h => h)
                  refine Or.inr ⟨?_, rfl⟩
                  focus (go_simp; done)
                  focus assumption
                  (try simp only [Act.put, List.setIfInBounds_toArray, List.set_cons_zero, List.set_cons_succ])
                  refine' wpAnyH_take (i := 9) (v := undef) ?_ ?_ ?_ ?_ ?_ ?_ ?_ ?_
                  rotate_left 1
                  focus (simp only [List.getElem?_toArray, List.getElem?_cons_succ, List.getElem?_cons_zero]; rfl)
                  focus kernel_rfl
                  focus kernel_rfl
                  focus kernel_rfl
                  focus exact (fun _ _ _ h => h)
                  refine Or.inr ⟨?_, rfl⟩
                  focus (go_simp; done)
                  focus assumption
                  (try simp only [Act.put, List.setIfInBounds_toArray, List.set_cons_zero, List.set_cons_succ])
                  refine' wpAnyH_take (i := 10) (v := undef) ?_ ?_ ?_ ?_ ?_ ?_ ?_ ?_
                  rotate_left 1
                  focus (simp only [List.getElem?_toArray, List.getElem?_cons_succ, List.getElem?_cons_zero]; rfl)
                  focus kernel_rfl
                  focus kernel_rfl
                  focus kernel_rfl
                  focus exact (fun _ _ _ h => h)
                  refine Or.inr ⟨?_, rfl⟩
                  focus (go_simp; done)
                  focus assumption
                  (try simp only [Act.put, List.setIfInBounds_toArray, List.set_cons_zero, List.set_cons_succ])
                  refine' wpAnyH_take (i := 11) (v := undef) ?_ ?_ ?_ ?_ ?_ ?_ ?_ ?_
                  rotate_left 1
                  focus (simp only [List.getElem?_toArray, List.getElem?_cons_succ, List.getElem?_cons_zero]; rfl)
                  focus kernel_rfl
                  focus kernel_rfl
                  focus kernel_rfl
                  focus exact (fun _ _ _ h => h)
                  refine Or.inr ⟨?_, rfl⟩
                  focus (go_simp; done)
                  focus assumption
                  (try simp only [Act.put, List.setIfInBounds_toArray, List.set_cons_zero, List.set_cons_succ])
                  refine' wpAnyH_take (i := 12) (v := undef) ?_ ?_ ?_ ?_ ?_ ?_ ?_ ?_
                  rotate_left 1
                  focus (simp only [List.getElem?_toArray, List.getElem?_cons_succ, List.getElem?_cons_zero]; rfl)
                  focus kernel_rfl
                  focus kernel_rfl
                  focus kernel_rfl
                  focus exact (fun _ _ _ h => h)
                  refine Or.inr ⟨?_, rfl⟩
                  focus (go_simp; done)
                  focus assumption
                  (try simp only [Act.put, List.setIfInBounds_toArray, List.set_cons_zero, List.set_cons_succ])
                  refine' wpAnyH_take (i := 13) (v := undef) ?_ ?_ ?_ ?_ ?_ ?_ ?_ ?_
                  rotate_left 1
                  focus (simp only [List.getElem?_toArray, List.getElem?_cons_succ, List.getElem?_cons_zero]; rfl)
                  focus kernel_rfl
                  focus kernel_rfl
                  focus kernel_rfl
                  focus exact (fun _ _ _ h => h)
                  refine Or.inr ⟨?_, rfl⟩
                  focus (go_simp; done)
                  focus assumption
                  (try simp only [Act.put, List.setIfInBounds_toArray, List.set_cons_zero, List.set_cons_succ])
                  refine' wpAnyH_take (i := 14) (v := _) ?_ ?_ ?_ ?_ ?_ ?_ ?_ ?_
                  rotate_left 2
                  focus (simp only [List.getElem?_toArray, List.getElem?_cons_succ, List.getElem?_cons_zero]; rfl)
                  focus kernel_rfl
                  focus kernel_rfl
                  focus kernel_rfl
                  focus exact (fun _ _ _ h => h)
                  refine Or.inl ⟨?_, ?_⟩
                  focus (go_simp; done)
                  focus (intro w hSw; have r2 := hSw.cell 2; have l1 := hSw.lt; (first | (go_simp; done) | (go_simp; with_reducible rfl)))
                  focus assumption
                  (try simp only [Act.put, List.setIfInBounds_toArray, List.set_cons_zero, List.set_cons_succ])
                  refine' wpAnyH_take (i := 15) (v := _) ?_ ?_ ?_ ?_ ?_ ?_ ?_ ?_
                  rotate_left 2
                  focus (simp only [List.getElem?_toArray, List.getElem?_cons_succ, List.getElem?_cons_zero]; rfl)
                  focus kernel_rfl
                  focus kernel_rfl
                  focus kernel_rfl
                  focus exact (fun _ _ _ h => h)
                  refine Or.inl ⟨?_, ?_⟩
                  focus (go_simp; done)
                  focus (intro w hSw; have r2 := hSw.cell 2; have l1 := hSw.lt; (first | (go_simp; done) | (go_simp; with_reducible rfl)))
                  focus assumption
                  (try simp only [Act.put, List.setIfInBounds_toArray, List.set_cons_zero, List.set_cons_succ])
                  refine wpAnyH_done (by kernel_rfl) ?_ _
                  have HQ7 := Lib.hid (show (Rt w #[.slice Ai g.ins.length ci, .int .i64 (V : Int), .int .i64 (K : Int), .slice Aa g.ars.length ca, .int .i64 0, .slice (some ⟨bo, off, none⟩) g.blks.length cb, .slice Aq g.pts.length cp, .slice Ah g.hds.length ch] #[.slice none 0 0, .slice none 0 0, .slice none 0 0, .slice none 0 0, .int .i64 0] lo Rb Vb Cb ⟨.slice Ai g.ins.length ci, .int .i64 (V : Int), .int .i64 (K : Int), .slice Aa g.ars.length ca, .int .i64 0, .slice (some ⟨bo, off, none⟩) g.blks.length cb, .slice Aq g.pts.length cp, .slice Ah g.hds.length ch⟩ (.slice (some ⟨gv, 0, none⟩) g.ars.length cv) us (.slice (some ⟨Hb, 0, none⟩) 4 4) (Tr.acts cs b.ops L) cd (cst + (L : Int)) (cl - 1 - (L : Int)) wr.drew) from HQ.out.below (below_drewN _ wr 1))
                  have HTb7 := Lib.hid (show Bk wr.drew tb 34 #[.slice (a1 ct) L (k1 ct), .int .i64 b.cond, .slice (a2 ct) 1 (k2 ct)] from HTb.out.below (below_drewN _ wr 1))
                  clear HQ HTb t0 t2 hHeld
                  generalize hW : wr.drew = W7 at HQ7 HTb7 ⊢
                  clear hW
                  obtain ⟨An, cn, en, hcn⟩ := HNe.out.opened
                  injection en with en1 en2 en3
                  obtain ⟨b4, off4, e4, hb4, y0⟩ := hcn 0 (by rw [HNl.out]; decide)
                  replace y0 := (HQ7.out.low.cell (p := ⟨b4, off4 + 0, none⟩) hb4).trans y0
                  rw [Nat.add_zero] at y0
                  have u2 := HTb7.out.cell 2
                  rw [en1, e4] at u2
                  obtain ⟨nv, hnv⟩ : ∃ z, b.next.getD 0 0 = z := ⟨_, rfl⟩
                  have HNv := Lib.hid hnv
                  rw [hnv] at y0
                  clear hnv hcn en1 en2 en3 e4 hb4
                  have HAt := Lib.hid (show ((Tr.its g (Tr.start g V xs n) (m + 1)).at_ : Int) = nv from by
                    show ((Tr.nxt g (Tr.pass g (Tr.its g (Tr.start g V xs n) m)) : Nat) : Int) = _
                    rw [HP.out]
                    unfold Tr.nxt
                    simp only
                    rw [HBe.out, HNl.out]
                    rw [if_pos (.inl rfl), HNv.out]
                    have := HNxb.out.2 0 (by rw [HNl.out]; decide)
                    rw [HNv.out] at this
                    omega)
                  have HR7 := Lib.hid (show (Rt w #[.slice Ai g.ins.length ci, .int .i64 (V : Int), .int .i64 (K : Int), .slice Aa g.ars.length ca, .int .i64 0, .slice (some ⟨bo, off, none⟩) g.blks.length cb, .slice Aq g.pts.length cp, .slice Ah g.hds.length ch] #[.slice none 0 0, .slice none 0 0, .slice none 0 0, .slice none 0 0, .int .i64 0] lo Rb Vb Cb ⟨.slice Ai g.ins.length ci, .int .i64 (V : Int), .int .i64 (K : Int), .slice Aa g.ars.length ca, .int .i64 0, .slice (some ⟨bo, off, none⟩) g.blks.length cb, .slice Aq g.pts.length cp, .slice Ah g.hds.length ch⟩ (.slice (some ⟨gv, 0, none⟩) g.ars.length cv) us (.slice (some ⟨Hb, 0, none⟩) 4 4) (Tr.its g (Tr.start g V xs n) (m + 1)).s (Tr.its g (Tr.start g V xs n) (m + 1)).cnt (Tr.its g (Tr.start g V xs n) (m + 1)).steps (Tr.its g (Tr.start g V xs n) (m + 1)).left W7) from by
                    have h := HQ7.out
                    rw [show (Tr.its g (Tr.start g V xs n) (m + 1)).s = Tr.acts cs b.ops L from by show (Tr.pass g (Tr.its g (Tr.start g V xs n) m)).s = _; rw [HP.out], show (Tr.its g (Tr.start g V xs n) (m + 1)).cnt = cd from by show (Tr.pass g (Tr.its g (Tr.start g V xs n) m)).cnt = _; rw [HP.out], show (Tr.its g (Tr.start g V xs n) (m + 1)).steps = cst + (L : Int) from by show (Tr.pass g (Tr.its g (Tr.start g V xs n) m)).steps = _; rw [HP.out], show (Tr.its g (Tr.start g V xs n) (m + 1)).left = cl - 1 - (L : Int) from by show (Tr.pass g (Tr.its g (Tr.start g V xs n) m)).left = _; rw [HP.out]]
                    exact h)
                  have HLf := Lib.hid (show (Tr.its g (Tr.start g V xs n) (m + 1)).left = cl - 1 - (L : Int) from by show (Tr.pass g (Tr.its g (Tr.start g V xs n) m)).left = _; rw [HP.out])
                  clear HQ7 HTb7
                  go_wp2
                  clear u2 y0
                  go_roundw
                  case rel => exact ⟨m + 1, by have := HMl.out; omega, by rw [HAt.out], HR7⟩
                  case measure =>
                    show leftOf Rb _ < leftOf Rb _
                    rw [HR7.out.rn.leftOf, HT0.out.rn.leftOf, HLf.out]
                    omega
                · skip
                  subst h2
                  obtain ⟨hc0, hc1⟩ := HNxb.out.1 HNl.out
                  obtain ⟨cn_, hcn_⟩ : ∃ z : Nat, b.cond = (z : Int) := ⟨b.cond.toNat, by omega⟩
                  have HCn := Lib.hid hcn_
                  rw [hcn_] at HTb hc1
                  have hcnl : cn_ < V := by omega
                  have hcn2 : (cn_ : Int) < V := by omega
                  have hcn0 : (0 : Int) ≤ (cn_ : Int) := by omega
                  obtain ⟨zc, hzc⟩ : ∃ z, (Tr.acts cs b.ops L).vs.getD cn_ 0 = z := ⟨_, rfl⟩
                  have HZc := Lib.hid hzc
                  clear hzc hcn_ hc0 hc1
                  go_upto_region 47 with fail
                  by_cases hz : zc = 0
                  · subst hz
                    refine wp_region_held_drew (S := (fun u : World => Bk u tb 34 #[.slice (a1 ct) L (k1 ct), .int .i64 (cn_ : Int), .slice (a2 ct) 2 (k2 ct)] ∧ Bk u Rb 67 (rnC ⟨.slice Ai g.ins.length ci, .int .i64 (V : Int), .int .i64 (K : Int), .slice Aa g.ars.length ca, .int .i64 0, .slice (some ⟨bo, off, none⟩) g.blks.length cb, .slice Aq g.pts.length cp, .slice Ah g.hds.length ch⟩ Vb (Tr.acts cs b.ops L).vs.length (.slice (some ⟨gv, 0, none⟩) g.ars.length cv) (.slice (some ⟨Hb, 0, none⟩) 4 4) (cst + (L : Int)) (cl - 1 - (L : Int))) ∧ Bk u Vb 3 ((Tr.acts cs b.ops L).vs.map (Value.int .i64)).toArray)) (by kernel_rfl) (⟨HTb.out.below (below_drewN _ _ 1), HQ.out.rn.rb.below (below_drewN _ _ 1), HQ.out.rn.vb.below (below_drewN _ _ 1)⟩) (fun hHeld => ?_)
                    refine' wpAnyH_take (i := 0) (v := _) ?_ ?_ ?_ ?_ ?_ ?_ ?_ ?_
                    rotate_left 2
                    focus (simp only [List.getElem?_toArray, List.getElem?_cons_succ, List.getElem?_cons_zero]; rfl)
                    focus kernel_rfl
                    focus kernel_rfl
                    focus kernel_rfl
                    focus exact (fun _ _ _ h => h)
                    refine Or.inl ⟨?_, ?_⟩
                    focus (go_simp; done)
                    focus (intro w hSw; have r1 := hSw.1.cell 1; have r2 := hSw.1.cell 2; have m8 := hSw.2.1.cell 8; unfold rnC at m8; rw [HVl.out] at m8; have vc := vs_cell hSw.2.2 (i := cn_) (by rw [HVl.out]; exact hcnl); rw [HZc.out] at vc; have l1 := hSw.1.lt; have l2 := hSw.2.1.lt; have l3 := hSw.2.2.lt; (first | (go_simp; done) | (go_simp; with_reducible rfl)))
                    focus assumption
                    (try simp only [Act.put, List.setIfInBounds_toArray, List.set_cons_zero, List.set_cons_succ])
                    refine' wpAnyH_take (i := 1) (v := _) ?_ ?_ ?_ ?_ ?_ ?_ ?_ ?_
                    rotate_left 2
                    focus (simp only [List.getElem?_toArray, List.getElem?_cons_succ, List.getElem?_cons_zero]; rfl)
                    focus kernel_rfl
                    focus kernel_rfl
                    focus kernel_rfl
                    focus exact (fun _ _ _ h => h)
                    refine Or.inl ⟨?_, ?_⟩
                    focus (go_simp; done)
                    focus (intro w hSw; have r1 := hSw.1.cell 1; have r2 := hSw.1.cell 2; have m8 := hSw.2.1.cell 8; unfold rnC at m8; rw [HVl.out] at m8; have vc := vs_cell hSw.2.2 (i := cn_) (by rw [HVl.out]; exact hcnl); rw [HZc.out] at vc; have l1 := hSw.1.lt; have l2 := hSw.2.1.lt; have l3 := hSw.2.2.lt; (first | (go_simp; done) | (go_simp; with_reducible rfl)))
                    focus assumption
                    (try simp only [Act.put, List.setIfInBounds_toArray, List.set_cons_zero, List.set_cons_succ])
                    refine' wpAnyH_take (i := 2) (v := _) ?_ ?_ ?_ ?_ ?_ ?_ ?_ ?_
                    rotate_left 2
                    focus (simp only [List.getElem?_toArray, List.getElem?_cons_succ, List.getElem?_cons_zero]; rfl)
                    focus kernel_rfl
                    focus kernel_rfl
                    focus kernel_rfl
                    focus exact (fun _ _ _ h => h)
                    refine Or.inl ⟨?_, ?_⟩
                    focus (go_simp; done)
                    focus (intro w hSw; have r1 := hSw.1.cell 1; have r2 := hSw.1.cell 2; have m8 := hSw.2.1.cell 8; unfold rnC at m8; rw [HVl.out] at m8; have vc := vs_cell hSw.2.2 (i := cn_) (by rw [HVl.out]; exact hcnl); rw [HZc.out] at vc; have l1 := hSw.1.lt; have l2 := hSw.2.1.lt; have l3 := hSw.2.2.lt; (first | (go_simp; done) | (go_simp; with_reducible rfl)))
                    focus assumption
                    (try simp only [Act.put, List.setIfInBounds_toArray, List.set_cons_zero, List.set_cons_succ])
                    refine' wpAnyH_take (i := 3) (v := _) ?_ ?_ ?_ ?_ ?_ ?_ ?_ ?_
                    rotate_left 2
                    focus (simp only [List.getElem?_toArray, List.getElem?_cons_succ, List.getElem?_cons_zero]; rfl)
                    focus kernel_rfl
                    focus kernel_rfl
                    focus kernel_rfl
                    focus exact (fun _ _ _ h => h)
                    refine Or.inl ⟨?_, ?_⟩
                    focus (go_simp; done)
                    focus (intro w hSw; have r1 := hSw.1.cell 1; have r2 := hSw.1.cell 2; have m8 := hSw.2.1.cell 8; unfold rnC at m8; rw [HVl.out] at m8; have vc := vs_cell hSw.2.2 (i := cn_) (by rw [HVl.out]; exact hcnl); rw [HZc.out] at vc; have l1 := hSw.1.lt; have l2 := hSw.2.1.lt; have l3 := hSw.2.2.lt; (first | (go_simp; done) | (go_simp; with_reducible rfl)))
                    focus assumption
                    (try simp only [Act.put, List.setIfInBounds_toArray, List.set_cons_zero, List.set_cons_succ])
                    refine' wpAnyH_take (i := 4) (v := _) ?_ ?_ ?_ ?_ ?_ ?_ ?_ ?_
                    rotate_left 2
                    focus (simp only [List.getElem?_toArray, List.getElem?_cons_succ, List.getElem?_cons_zero]; rfl)
                    focus kernel_rfl
                    focus kernel_rfl
                    focus kernel_rfl
                    focus exact (fun _ _ _ h => h)
                    refine Or.inl ⟨?_, ?_⟩
                    focus (go_simp; done)
                    focus (intro w hSw; have r1 := hSw.1.cell 1; have r2 := hSw.1.cell 2; have m8 := hSw.2.1.cell 8; unfold rnC at m8; rw [HVl.out] at m8; have vc := vs_cell hSw.2.2 (i := cn_) (by rw [HVl.out]; exact hcnl); rw [HZc.out] at vc; have l1 := hSw.1.lt; have l2 := hSw.2.1.lt; have l3 := hSw.2.2.lt; (first | (go_simp; done) | (go_simp; with_reducible rfl)))
                    focus assumption
                    (try simp only [Act.put, List.setIfInBounds_toArray, List.set_cons_zero, List.set_cons_succ])
                    refine' wpAnyH_take (i := 5) (v := _) ?_ ?_ ?_ ?_ ?_ ?_ ?_ ?_
                    rotate_left 2
                    focus (simp only [List.getElem?_toArray, List.getElem?_cons_succ, List.getElem?_cons_zero]; rfl)
                    focus kernel_rfl
                    focus kernel_rfl
                    focus kernel_rfl
                    focus exact (fun _ _ _ h => h)
                    refine Or.inl ⟨?_, ?_⟩
                    focus (go_simp; done)
                    focus (intro w hSw; have r1 := hSw.1.cell 1; have r2 := hSw.1.cell 2; have m8 := hSw.2.1.cell 8; unfold rnC at m8; rw [HVl.out] at m8; have vc := vs_cell hSw.2.2 (i := cn_) (by rw [HVl.out]; exact hcnl); rw [HZc.out] at vc; have l1 := hSw.1.lt; have l2 := hSw.2.1.lt; have l3 := hSw.2.2.lt; (first | (go_simp; done) | (go_simp; with_reducible rfl)))
                    focus assumption
                    (try simp only [Act.put, List.setIfInBounds_toArray, List.set_cons_zero, List.set_cons_succ])
                    refine' wpAnyH_take (i := 6) (v := _) ?_ ?_ ?_ ?_ ?_ ?_ ?_ ?_
                    rotate_left 2
                    focus (simp only [List.getElem?_toArray, List.getElem?_cons_succ, List.getElem?_cons_zero]; rfl)
                    focus kernel_rfl
                    focus kernel_rfl
                    focus kernel_rfl
                    focus exact (fun _ _ _ h => h)
                    refine Or.inl ⟨?_, ?_⟩
                    focus (go_simp; done)
                    focus (intro w hSw; have r1 := hSw.1.cell 1; have r2 := hSw.1.cell 2; have m8 := hSw.2.1.cell 8; unfold rnC at m8; rw [HVl.out] at m8; have vc := vs_cell hSw.2.2 (i := cn_) (by rw [HVl.out]; exact hcnl); rw [HZc.out] at vc; have l1 := hSw.1.lt; have l2 := hSw.2.1.lt; have l3 := hSw.2.2.lt; (first | (go_simp; done) | (go_simp; with_reducible rfl)))
                    focus assumption
                    (try simp only [Act.put, List.setIfInBounds_toArray, List.set_cons_zero, List.set_cons_succ])
                    refine' wpAnyH_take (i := 7) (v := _) ?_ ?_ ?_ ?_ ?_ ?_ ?_ ?_
                    rotate_left 2
                    focus (simp only [List.getElem?_toArray, List.getElem?_cons_succ, List.getElem?_cons_zero]; rfl)
                    focus kernel_rfl
                    focus kernel_rfl
                    focus kernel_rfl
                    focus exact (fun _ _ _ h => h)
                    refine Or.inl ⟨?_, ?_⟩
                    focus (go_simp; done)
                    focus (intro w hSw; have r1 := hSw.1.cell 1; have r2 := hSw.1.cell 2; have m8 := hSw.2.1.cell 8; unfold rnC at m8; rw [HVl.out] at m8; have vc := vs_cell hSw.2.2 (i := cn_) (by rw [HVl.out]; exact hcnl); rw [HZc.out] at vc; have l1 := hSw.1.lt; have l2 := hSw.2.1.lt; have l3 := hSw.2.2.lt; (first | (go_simp; done) | (go_simp; with_reducible rfl)))
                    focus assumption
                    (try simp only [Act.put, List.setIfInBounds_toArray, List.set_cons_zero, List.set_cons_succ])
                    refine' wpAnyH_take (i := 8) (v := _) ?_ ?_ ?_ ?_ ?_ ?_ ?_ ?_
                    rotate_left 2
                    focus (simp only [List.getElem?_toArray, List.getElem?_cons_succ, List.getElem?_cons_zero]; rfl)
                    focus kernel_rfl
                    focus kernel_rfl
                    focus kernel_rfl
                    focus exact (fun _ _ _ h => h)
                    refine Or.inl ⟨?_, ?_⟩
                    focus (go_simp; done)
                    focus (intro w hSw; have r1 := hSw.1.cell 1; have r2 := hSw.1.cell 2; have m8 := hSw.2.1.cell 8; unfold rnC at m8; rw [HVl.out] at m8; have vc := vs_cell hSw.2.2 (i := cn_) (by rw [HVl.out]; exact hcnl); rw [HZc.out] at vc; have l1 := hSw.1.lt; have l2 := hSw.2.1.lt; have l3 := hSw.2.2.lt; (first | (go_simp; done) | (go_simp; with_reducible rfl)))
                    focus assumption
                    (try simp only [Act.put, List.setIfInBounds_toArray, List.set_cons_zero, List.set_cons_succ])
                    refine' wpAnyH_take (i := 9) (v := _) ?_ ?_ ?_ ?_ ?_ ?_ ?_ ?_
                    rotate_left 2
                    focus (simp only [List.getElem?_toArray, List.getElem?_cons_succ, List.getElem?_cons_zero]; rfl)
                    focus kernel_rfl
                    focus kernel_rfl
                    focus kernel_rfl
                    focus exact (fun _ _ _ h => h)
                    refine Or.inl ⟨?_, ?_⟩
                    focus (go_simp; done)
                    focus (intro w hSw; have r1 := hSw.1.cell 1; have r2 := hSw.1.cell 2; have m8 := hSw.2.1.cell 8; unfold rnC at m8; rw [HVl.out] at m8; have vc := vs_cell hSw.2.2 (i := cn_) (by rw [HVl.out]; exact hcnl); rw [HZc.out] at vc; have l1 := hSw.1.lt; have l2 := hSw.2.1.lt; have l3 := hSw.2.2.lt; (first | (go_simp; done) | (go_simp; with_reducible rfl)))
                    focus assumption
                    (try simp only [Act.put, List.setIfInBounds_toArray, List.set_cons_zero, List.set_cons_succ])
                    refine' wpAnyH_take (i := 10) (v := _) ?_ ?_ ?_ ?_ ?_ ?_ ?_ ?_
                    rotate_left 2
                    focus (simp only [List.getElem?_toArray, List.getElem?_cons_succ, List.getElem?_cons_zero]; rfl)
                    focus kernel_rfl
                    focus kernel_rfl
                    focus kernel_rfl
                    focus exact (fun _ _ _ h => h)
                    refine Or.inl ⟨?_, ?_⟩
                    focus (go_simp; done)
                    focus (intro w hSw; have r1 := hSw.1.cell 1; have r2 := hSw.1.cell 2; have m8 := hSw.2.1.cell 8; unfold rnC at m8; rw [HVl.out] at m8; have vc := vs_cell hSw.2.2 (i := cn_) (by rw [HVl.out]; exact hcnl); rw [HZc.out] at vc; have l1 := hSw.1.lt; have l2 := hSw.2.1.lt; have l3 := hSw.2.2.lt; (first | (go_simp; done) | (go_simp; with_reducible rfl)))
                    focus assumption
                    (try simp only [Act.put, List.setIfInBounds_toArray, List.set_cons_zero, List.set_cons_succ])
                    refine' wpAnyH_take (i := 11) (v := _) ?_ ?_ ?_ ?_ ?_ ?_ ?_ ?_
                    rotate_left 2
                    focus (simp only [List.getElem?_toArray, List.getElem?_cons_succ, List.getElem?_cons_zero]; rfl)
                    focus kernel_rfl
                    focus kernel_rfl
                    focus kernel_rfl
                    focus exact (fun _ _ _ h => h)
                    refine Or.inl ⟨?_, ?_⟩
                    focus (go_simp; done)
                    focus (intro w hSw; have r1 := hSw.1.cell 1; have r2 := hSw.1.cell 2; have m8 := hSw.2.1.cell 8; unfold rnC at m8; rw [HVl.out] at m8; have vc := vs_cell hSw.2.2 (i := cn_) (by rw [HVl.out]; exact hcnl); rw [HZc.out] at vc; have l1 := hSw.1.lt; have l2 := hSw.2.1.lt; have l3 := hSw.2.2.lt; (first | (go_simp; done) | (go_simp; with_reducible rfl)))
                    focus assumption
                    (try simp only [Act.put, List.setIfInBounds_toArray, List.set_cons_zero, List.set_cons_succ])
                    refine' wpAnyH_take (i := 12) (v := _) ?_ ?_ ?_ ?_ ?_ ?_ ?_ ?_
                    rotate_left 2
                    focus (simp only [List.getElem?_toArray, List.getElem?_cons_succ, List.getElem?_cons_zero]; rfl)
                    focus kernel_rfl
                    focus kernel_rfl
                    focus kernel_rfl
                    focus exact (fun _ _ _ h => h)
                    refine Or.inl ⟨?_, ?_⟩
                    focus (go_simp; done)
                    focus (intro w hSw; have r1 := hSw.1.cell 1; have r2 := hSw.1.cell 2; have m8 := hSw.2.1.cell 8; unfold rnC at m8; rw [HVl.out] at m8; have vc := vs_cell hSw.2.2 (i := cn_) (by rw [HVl.out]; exact hcnl); rw [HZc.out] at vc; have l1 := hSw.1.lt; have l2 := hSw.2.1.lt; have l3 := hSw.2.2.lt; (first | (go_simp; done) | (go_simp; with_reducible rfl)))
                    focus assumption
                    (try simp only [Act.put, List.setIfInBounds_toArray, List.set_cons_zero, List.set_cons_succ])
                    refine' wpAnyH_take (i := 13) (v := _) ?_ ?_ ?_ ?_ ?_ ?_ ?_ ?_
                    rotate_left 2
                    focus (simp only [List.getElem?_toArray, List.getElem?_cons_succ, List.getElem?_cons_zero]; rfl)
                    focus kernel_rfl
                    focus kernel_rfl
                    focus kernel_rfl
                    focus exact (fun _ _ _ h => h)
                    refine Or.inl ⟨?_, ?_⟩
                    focus (go_simp; done)
                    focus (intro w hSw; have r1 := hSw.1.cell 1; have r2 := hSw.1.cell 2; have m8 := hSw.2.1.cell 8; unfold rnC at m8; rw [HVl.out] at m8; have vc := vs_cell hSw.2.2 (i := cn_) (by rw [HVl.out]; exact hcnl); rw [HZc.out] at vc; have l1 := hSw.1.lt; have l2 := hSw.2.1.lt; have l3 := hSw.2.2.lt; (first | (go_simp; done) | (go_simp; with_reducible rfl)))
                    focus assumption
                    (try simp only [Act.put, List.setIfInBounds_toArray, List.set_cons_zero, List.set_cons_succ])
                    refine' wpAnyH_take (i := 14) (v := _) ?_ ?_ ?_ ?_ ?_ ?_ ?_ ?_
                    rotate_left 2
                    focus (simp only [List.getElem?_toArray, List.getElem?_cons_succ, List.getElem?_cons_zero]; rfl)
                    focus kernel_rfl
                    focus kernel_rfl
                    focus kernel_rfl
                    focus exact (fun _ _ _ h => h)
                    refine Or.inl ⟨?_, ?_⟩
                    focus (go_simp; done)
                    focus (intro w hSw; have r1 := hSw.1.cell 1; have r2 := hSw.1.cell 2; have m8 := hSw.2.1.cell 8; unfold rnC at m8; rw [HVl.out] at m8; have vc := vs_cell hSw.2.2 (i := cn_) (by rw [HVl.out]; exact hcnl); rw [HZc.out] at vc; have l1 := hSw.1.lt; have l2 := hSw.2.1.lt; have l3 := hSw.2.2.lt; (first | (go_simp; done) | (go_simp; with_reducible rfl)))
                    focus assumption
                    (try simp only [Act.put, List.setIfInBounds_toArray, List.set_cons_zero, List.set_cons_succ])
                    refine' wpAnyH_take (i := 15) (v := _) ?_ ?_ ?_ ?_ ?_ ?_ ?_ ?_
                    rotate_left 2
                    focus (simp only [List.getElem?_toArray, List.getElem?_cons_succ, List.getElem?_cons_zero]; rfl)
                    focus kernel_rfl
                    focus kernel_rfl
                    focus kernel_rfl
                    focus exact (fun _ _ _ h => h)
                    refine Or.inl ⟨?_, ?_⟩
                    focus (go_simp; done)
                    focus (intro w hSw; have r1 := hSw.1.cell 1; have r2 := hSw.1.cell 2; have m8 := hSw.2.1.cell 8; unfold rnC at m8; rw [HVl.out] at m8; have vc := vs_cell hSw.2.2 (i := cn_) (by rw [HVl.out]; exact hcnl); rw [HZc.out] at vc; have l1 := hSw.1.lt; have l2 := hSw.2.1.lt; have l3 := hSw.2.2.lt; (first | (go_simp; done) | (go_simp; with_reducible rfl)))
                    focus assumption
                    (try simp only [Act.put, List.setIfInBounds_toArray, List.set_cons_zero, List.set_cons_succ])
                    refine wpAnyH_done (by kernel_rfl) ?_ _
                    have HQ7 := Lib.hid (show (Rt w #[.slice Ai g.ins.length ci, .int .i64 (V : Int), .int .i64 (K : Int), .slice Aa g.ars.length ca, .int .i64 0, .slice (some ⟨bo, off, none⟩) g.blks.length cb, .slice Aq g.pts.length cp, .slice Ah g.hds.length ch] #[.slice none 0 0, .slice none 0 0, .slice none 0 0, .slice none 0 0, .int .i64 0] lo Rb Vb Cb ⟨.slice Ai g.ins.length ci, .int .i64 (V : Int), .int .i64 (K : Int), .slice Aa g.ars.length ca, .int .i64 0, .slice (some ⟨bo, off, none⟩) g.blks.length cb, .slice Aq g.pts.length cp, .slice Ah g.hds.length ch⟩ (.slice (some ⟨gv, 0, none⟩) g.ars.length cv) us (.slice (some ⟨Hb, 0, none⟩) 4 4) (Tr.acts cs b.ops L) cd (cst + (L : Int)) (cl - 1 - (L : Int)) wr.drew) from HQ.out.below (below_drewN _ wr 1))
                    have HTb7 := Lib.hid (show Bk wr.drew tb 34 #[.slice (a1 ct) L (k1 ct), .int .i64 (cn_ : Int), .slice (a2 ct) 2 (k2 ct)] from HTb.out.below (below_drewN _ wr 1))
                    clear HQ HTb t0 t2 hHeld
                    generalize hW : wr.drew = W7 at HQ7 HTb7 ⊢
                    clear hW
                    obtain ⟨An, cn, en, hcn⟩ := HNe.out.opened
                    injection en with en1 en2 en3
                    obtain ⟨b4, off4, e4, hb4, y0⟩ := hcn 1 (by rw [HNl.out]; decide)
                    replace y0 := (HQ7.out.low.cell (p := ⟨b4, off4 + 1, none⟩) hb4).trans y0
                    have u2 := HTb7.out.cell 2
                    rw [en1, e4] at u2
                    obtain ⟨nv, hnv⟩ : ∃ z, b.next.getD 1 0 = z := ⟨_, rfl⟩
                    have HNv := Lib.hid hnv
                    rw [hnv] at y0
                    clear hnv hcn en1 en2 en3 e4 hb4
                    have HAt := Lib.hid (show ((Tr.its g (Tr.start g V xs n) (m + 1)).at_ : Int) = nv from by
                      show ((Tr.nxt g (Tr.pass g (Tr.its g (Tr.start g V xs n) m)) : Nat) : Int) = _
                      rw [HP.out]
                      unfold Tr.nxt
                      simp only
                      rw [HBe.out, HNl.out]
                      rw [if_neg (fun h => h.elim (fun h => absurd h (by decide)) (fun h => h (by unfold Tr.at_; rw [HCn.out, Int.toNat_natCast]; exact HZc.out))), HNv.out]
                      have := HNxb.out.2 1 (by rw [HNl.out]; decide)
                      rw [HNv.out] at this
                      omega)
                    have HR7 := Lib.hid (show (Rt w #[.slice Ai g.ins.length ci, .int .i64 (V : Int), .int .i64 (K : Int), .slice Aa g.ars.length ca, .int .i64 0, .slice (some ⟨bo, off, none⟩) g.blks.length cb, .slice Aq g.pts.length cp, .slice Ah g.hds.length ch] #[.slice none 0 0, .slice none 0 0, .slice none 0 0, .slice none 0 0, .int .i64 0] lo Rb Vb Cb ⟨.slice Ai g.ins.length ci, .int .i64 (V : Int), .int .i64 (K : Int), .slice Aa g.ars.length ca, .int .i64 0, .slice (some ⟨bo, off, none⟩) g.blks.length cb, .slice Aq g.pts.length cp, .slice Ah g.hds.length ch⟩ (.slice (some ⟨gv, 0, none⟩) g.ars.length cv) us (.slice (some ⟨Hb, 0, none⟩) 4 4) (Tr.its g (Tr.start g V xs n) (m + 1)).s (Tr.its g (Tr.start g V xs n) (m + 1)).cnt (Tr.its g (Tr.start g V xs n) (m + 1)).steps (Tr.its g (Tr.start g V xs n) (m + 1)).left W7) from by
                      have h := HQ7.out
                      rw [show (Tr.its g (Tr.start g V xs n) (m + 1)).s = Tr.acts cs b.ops L from by show (Tr.pass g (Tr.its g (Tr.start g V xs n) m)).s = _; rw [HP.out], show (Tr.its g (Tr.start g V xs n) (m + 1)).cnt = cd from by show (Tr.pass g (Tr.its g (Tr.start g V xs n) m)).cnt = _; rw [HP.out], show (Tr.its g (Tr.start g V xs n) (m + 1)).steps = cst + (L : Int) from by show (Tr.pass g (Tr.its g (Tr.start g V xs n) m)).steps = _; rw [HP.out], show (Tr.its g (Tr.start g V xs n) (m + 1)).left = cl - 1 - (L : Int) from by show (Tr.pass g (Tr.its g (Tr.start g V xs n) m)).left = _; rw [HP.out]]
                      exact h)
                    have HLf := Lib.hid (show (Tr.its g (Tr.start g V xs n) (m + 1)).left = cl - 1 - (L : Int) from by show (Tr.pass g (Tr.its g (Tr.start g V xs n) m)).left = _; rw [HP.out])
                    clear HQ7 HTb7
                    go_wp2
                    clear u2 y0
                    go_roundw
                    case rel => exact ⟨m + 1, by have := HMl.out; omega, by rw [HAt.out], HR7⟩
                    case measure =>
                      show leftOf Rb _ < leftOf Rb _
                      rw [HR7.out.rn.leftOf, HT0.out.rn.leftOf, HLf.out]
                      omega
                  · skip
                    refine wp_region_held_drew (S := (fun u : World => Bk u tb 34 #[.slice (a1 ct) L (k1 ct), .int .i64 (cn_ : Int), .slice (a2 ct) 2 (k2 ct)] ∧ Bk u Rb 67 (rnC ⟨.slice Ai g.ins.length ci, .int .i64 (V : Int), .int .i64 (K : Int), .slice Aa g.ars.length ca, .int .i64 0, .slice (some ⟨bo, off, none⟩) g.blks.length cb, .slice Aq g.pts.length cp, .slice Ah g.hds.length ch⟩ Vb (Tr.acts cs b.ops L).vs.length (.slice (some ⟨gv, 0, none⟩) g.ars.length cv) (.slice (some ⟨Hb, 0, none⟩) 4 4) (cst + (L : Int)) (cl - 1 - (L : Int))) ∧ Bk u Vb 3 ((Tr.acts cs b.ops L).vs.map (Value.int .i64)).toArray)) (by kernel_rfl) (⟨HTb.out.below (below_drewN _ _ 1), HQ.out.rn.rb.below (below_drewN _ _ 1), HQ.out.rn.vb.below (below_drewN _ _ 1)⟩) (fun hHeld => ?_)
                    refine' wpAnyH_take (i := 0) (v := _) ?_ ?_ ?_ ?_ ?_ ?_ ?_ ?_
                    rotate_left 2
                    focus (simp only [List.getElem?_toArray, List.getElem?_cons_succ, List.getElem?_cons_zero]; rfl)
                    focus kernel_rfl
                    focus kernel_rfl
                    focus kernel_rfl
                    focus exact (fun _ _ _ h => h)
                    refine Or.inl ⟨?_, ?_⟩
                    focus (go_simp; done)
                    focus (intro w hSw; have r1 := hSw.1.cell 1; have r2 := hSw.1.cell 2; have m8 := hSw.2.1.cell 8; unfold rnC at m8; rw [HVl.out] at m8; have vc := vs_cell hSw.2.2 (i := cn_) (by rw [HVl.out]; exact hcnl); rw [HZc.out] at vc; have l1 := hSw.1.lt; have l2 := hSw.2.1.lt; have l3 := hSw.2.2.lt; (first | (go_simp; done) | (go_simp; with_reducible rfl)))
                    focus assumption
                    (try simp only [Act.put, List.setIfInBounds_toArray, List.set_cons_zero, List.set_cons_succ])
                    refine' wpAnyH_take (i := 1) (v := _) ?_ ?_ ?_ ?_ ?_ ?_ ?_ ?_
                    rotate_left 2
                    focus (simp only [List.getElem?_toArray, List.getElem?_cons_succ, List.getElem?_cons_zero]; rfl)
                    focus kernel_rfl
                    focus kernel_rfl
                    focus kernel_rfl
                    focus exact (fun _ _ _ h => h)
                    refine Or.inl ⟨?_, ?_⟩
                    focus (go_simp; done)
                    focus (intro w hSw; have r1 := hSw.1.cell 1; have r2 := hSw.1.cell 2; have m8 := hSw.2.1.cell 8; unfold rnC at m8; rw [HVl.out] at m8; have vc := vs_cell hSw.2.2 (i := cn_) (by rw [HVl.out]; exact hcnl); rw [HZc.out] at vc; have l1 := hSw.1.lt; have l2 := hSw.2.1.lt; have l3 := hSw.2.2.lt; (first | (go_simp; done) | (go_simp; with_reducible rfl)))
                    focus assumption
                    (try simp only [Act.put, List.setIfInBounds_toArray, List.set_cons_zero, List.set_cons_succ])
                    refine' wpAnyH_take (i := 2) (v := _) ?_ ?_ ?_ ?_ ?_ ?_ ?_ ?_
                    rotate_left 2
                    focus (simp only [List.getElem?_toArray, List.getElem?_cons_succ, List.getElem?_cons_zero]; rfl)
                    focus kernel_rfl
                    focus kernel_rfl
                    focus kernel_rfl
                    focus exact (fun _ _ _ h => h)
                    refine Or.inl ⟨?_, ?_⟩
                    focus (go_simp; done)
                    focus (intro w hSw; have r1 := hSw.1.cell 1; have r2 := hSw.1.cell 2; have m8 := hSw.2.1.cell 8; unfold rnC at m8; rw [HVl.out] at m8; have vc := vs_cell hSw.2.2 (i := cn_) (by rw [HVl.out]; exact hcnl); rw [HZc.out] at vc; have l1 := hSw.1.lt; have l2 := hSw.2.1.lt; have l3 := hSw.2.2.lt; (first | (go_simp; done) | (go_simp; with_reducible rfl)))
                    focus assumption
                    (try simp only [Act.put, List.setIfInBounds_toArray, List.set_cons_zero, List.set_cons_succ])
                    refine' wpAnyH_take (i := 3) (v := _) ?_ ?_ ?_ ?_ ?_ ?_ ?_ ?_
                    rotate_left 2
                    focus (simp only [List.getElem?_toArray, List.getElem?_cons_succ, List.getElem?_cons_zero]; rfl)
                    focus kernel_rfl
                    focus kernel_rfl
                    focus kernel_rfl
                    focus exact (fun _ _ _ h => h)
                    refine Or.inl ⟨?_, ?_⟩
                    focus (go_simp; done)
                    focus (intro w hSw; have r1 := hSw.1.cell 1; have r2 := hSw.1.cell 2; have m8 := hSw.2.1.cell 8; unfold rnC at m8; rw [HVl.out] at m8; have vc := vs_cell hSw.2.2 (i := cn_) (by rw [HVl.out]; exact hcnl); rw [HZc.out] at vc; have l1 := hSw.1.lt; have l2 := hSw.2.1.lt; have l3 := hSw.2.2.lt; (first | (go_simp; done) | (go_simp; with_reducible rfl)))
                    focus assumption
                    (try simp only [Act.put, List.setIfInBounds_toArray, List.set_cons_zero, List.set_cons_succ])
                    refine' wpAnyH_take (i := 4) (v := _) ?_ ?_ ?_ ?_ ?_ ?_ ?_ ?_
                    rotate_left 2
                    focus (simp only [List.getElem?_toArray, List.getElem?_cons_succ, List.getElem?_cons_zero]; rfl)
                    focus kernel_rfl
                    focus kernel_rfl
                    focus kernel_rfl
                    focus exact (fun _ _ _ h => h)
                    refine Or.inl ⟨?_, ?_⟩
                    focus (go_simp; done)
                    focus (intro w hSw; have r1 := hSw.1.cell 1; have r2 := hSw.1.cell 2; have m8 := hSw.2.1.cell 8; unfold rnC at m8; rw [HVl.out] at m8; have vc := vs_cell hSw.2.2 (i := cn_) (by rw [HVl.out]; exact hcnl); rw [HZc.out] at vc; have l1 := hSw.1.lt; have l2 := hSw.2.1.lt; have l3 := hSw.2.2.lt; (first | (go_simp; done) | (go_simp; with_reducible rfl)))
                    focus assumption
                    (try simp only [Act.put, List.setIfInBounds_toArray, List.set_cons_zero, List.set_cons_succ])
                    refine' wpAnyH_take (i := 5) (v := _) ?_ ?_ ?_ ?_ ?_ ?_ ?_ ?_
                    rotate_left 2
                    focus (simp only [List.getElem?_toArray, List.getElem?_cons_succ, List.getElem?_cons_zero]; rfl)
                    focus kernel_rfl
                    focus kernel_rfl
                    focus kernel_rfl
                    focus exact (fun _ _ _ h => h)
                    refine Or.inl ⟨?_, ?_⟩
                    focus (go_simp; done)
                    focus (intro w hSw; have r1 := hSw.1.cell 1; have r2 := hSw.1.cell 2; have m8 := hSw.2.1.cell 8; unfold rnC at m8; rw [HVl.out] at m8; have vc := vs_cell hSw.2.2 (i := cn_) (by rw [HVl.out]; exact hcnl); rw [HZc.out] at vc; have l1 := hSw.1.lt; have l2 := hSw.2.1.lt; have l3 := hSw.2.2.lt; (first | (go_simp; done) | (go_simp; with_reducible rfl)))
                    focus assumption
                    (try simp only [Act.put, List.setIfInBounds_toArray, List.set_cons_zero, List.set_cons_succ])
                    refine' wpAnyH_take (i := 6) (v := _) ?_ ?_ ?_ ?_ ?_ ?_ ?_ ?_
                    rotate_left 2
                    focus (simp only [List.getElem?_toArray, List.getElem?_cons_succ, List.getElem?_cons_zero]; rfl)
                    focus kernel_rfl
                    focus kernel_rfl
                    focus kernel_rfl
                    focus exact (fun _ _ _ h => h)
                    refine Or.inl ⟨?_, ?_⟩
                    focus (go_simp; done)
                    focus (intro w hSw; have r1 := hSw.1.cell 1; have r2 := hSw.1.cell 2; have m8 := hSw.2.1.cell 8; unfold rnC at m8; rw [HVl.out] at m8; have vc := vs_cell hSw.2.2 (i := cn_) (by rw [HVl.out]; exact hcnl); rw [HZc.out] at vc; have l1 := hSw.1.lt; have l2 := hSw.2.1.lt; have l3 := hSw.2.2.lt; (first | (go_simp; done) | (go_simp; with_reducible rfl)))
                    focus assumption
                    (try simp only [Act.put, List.setIfInBounds_toArray, List.set_cons_zero, List.set_cons_succ])
                    refine' wpAnyH_take (i := 7) (v := _) ?_ ?_ ?_ ?_ ?_ ?_ ?_ ?_
                    rotate_left 2
                    focus (simp only [List.getElem?_toArray, List.getElem?_cons_succ, List.getElem?_cons_zero]; rfl)
                    focus kernel_rfl
                    focus kernel_rfl
                    focus kernel_rfl
                    focus exact (fun _ _ _ h => h)
                    refine Or.inl ⟨?_, ?_⟩
                    focus (go_simp; done)
                    focus (intro w hSw; have r1 := hSw.1.cell 1; have r2 := hSw.1.cell 2; have m8 := hSw.2.1.cell 8; unfold rnC at m8; rw [HVl.out] at m8; have vc := vs_cell hSw.2.2 (i := cn_) (by rw [HVl.out]; exact hcnl); rw [HZc.out] at vc; have l1 := hSw.1.lt; have l2 := hSw.2.1.lt; have l3 := hSw.2.2.lt; (first | (go_simp; done) | (go_simp; with_reducible rfl)))
                    focus assumption
                    (try simp only [Act.put, List.setIfInBounds_toArray, List.set_cons_zero, List.set_cons_succ])
                    refine' wpAnyH_take (i := 8) (v := _) ?_ ?_ ?_ ?_ ?_ ?_ ?_ ?_
                    rotate_left 2
                    focus (simp only [List.getElem?_toArray, List.getElem?_cons_succ, List.getElem?_cons_zero]; rfl)
                    focus kernel_rfl
                    focus kernel_rfl
                    focus kernel_rfl
                    focus exact (fun _ _ _ h => h)
                    refine Or.inl ⟨?_, ?_⟩
                    focus (go_simp; done)
                    focus (intro w hSw; have r1 := hSw.1.cell 1; have r2 := hSw.1.cell 2; have m8 := hSw.2.1.cell 8; unfold rnC at m8; rw [HVl.out] at m8; have vc := vs_cell hSw.2.2 (i := cn_) (by rw [HVl.out]; exact hcnl); rw [HZc.out] at vc; have l1 := hSw.1.lt; have l2 := hSw.2.1.lt; have l3 := hSw.2.2.lt; (first | (go_simp; done) | (go_simp; with_reducible rfl)))
                    focus assumption
                    (try simp only [Act.put, List.setIfInBounds_toArray, List.set_cons_zero, List.set_cons_succ])
                    refine' wpAnyH_take (i := 9) (v := _) ?_ ?_ ?_ ?_ ?_ ?_ ?_ ?_
                    rotate_left 2
                    focus (simp only [List.getElem?_toArray, List.getElem?_cons_succ, List.getElem?_cons_zero]; rfl)
                    focus kernel_rfl
                    focus kernel_rfl
                    focus kernel_rfl
                    focus exact (fun _ _ _ h => h)
                    refine Or.inl ⟨?_, ?_⟩
                    focus (go_simp; done)
                    focus (intro w hSw; have r1 := hSw.1.cell 1; have r2 := hSw.1.cell 2; have m8 := hSw.2.1.cell 8; unfold rnC at m8; rw [HVl.out] at m8; have vc := vs_cell hSw.2.2 (i := cn_) (by rw [HVl.out]; exact hcnl); rw [HZc.out] at vc; have l1 := hSw.1.lt; have l2 := hSw.2.1.lt; have l3 := hSw.2.2.lt; (first | (go_simp; done) | (go_simp; with_reducible rfl)))
                    focus assumption
                    (try simp only [Act.put, List.setIfInBounds_toArray, List.set_cons_zero, List.set_cons_succ])
                    refine' wpAnyH_take (i := 10) (v := _) ?_ ?_ ?_ ?_ ?_ ?_ ?_ ?_
                    rotate_left 2
                    focus (simp only [List.getElem?_toArray, List.getElem?_cons_succ, List.getElem?_cons_zero]; rfl)
                    focus kernel_rfl
                    focus kernel_rfl
                    focus kernel_rfl
                    focus exact (fun _ _ _ h => h)
                    refine Or.inl ⟨?_, ?_⟩
                    focus (go_simp; done)
                    focus (intro w hSw; have r1 := hSw.1.cell 1; have r2 := hSw.1.cell 2; have m8 := hSw.2.1.cell 8; unfold rnC at m8; rw [HVl.out] at m8; have vc := vs_cell hSw.2.2 (i := cn_) (by rw [HVl.out]; exact hcnl); rw [HZc.out] at vc; have l1 := hSw.1.lt; have l2 := hSw.2.1.lt; have l3 := hSw.2.2.lt; (first | (go_simp; done) | (go_simp; with_reducible rfl)))
                    focus assumption
                    (try simp only [Act.put, List.setIfInBounds_toArray, List.set_cons_zero, List.set_cons_succ])
                    refine' wpAnyH_take (i := 11) (v := _) ?_ ?_ ?_ ?_ ?_ ?_ ?_ ?_
                    rotate_left 2
                    focus (simp only [List.getElem?_toArray, List.getElem?_cons_succ, List.getElem?_cons_zero]; rfl)
                    focus kernel_rfl
                    focus kernel_rfl
                    focus kernel_rfl
                    focus exact (fun _ _ _ h => h)
                    refine Or.inl ⟨?_, ?_⟩
                    focus (go_simp; done)
                    focus (intro w hSw; have r1 := hSw.1.cell 1; have r2 := hSw.1.cell 2; have m8 := hSw.2.1.cell 8; unfold rnC at m8; rw [HVl.out] at m8; have vc := vs_cell hSw.2.2 (i := cn_) (by rw [HVl.out]; exact hcnl); rw [HZc.out] at vc; have l1 := hSw.1.lt; have l2 := hSw.2.1.lt; have l3 := hSw.2.2.lt; (first | (go_simp; done) | (go_simp; with_reducible rfl)))
                    focus assumption
                    (try simp only [Act.put, List.setIfInBounds_toArray, List.set_cons_zero, List.set_cons_succ])
                    refine' wpAnyH_take (i := 12) (v := _) ?_ ?_ ?_ ?_ ?_ ?_ ?_ ?_
                    rotate_left 2
                    focus (simp only [List.getElem?_toArray, List.getElem?_cons_succ, List.getElem?_cons_zero]; rfl)
                    focus kernel_rfl
                    focus kernel_rfl
                    focus kernel_rfl
                    focus exact (fun _ _ _ h => h)
                    refine Or.inl ⟨?_, ?_⟩
                    focus (go_simp; done)
                    focus (intro w hSw; have r1 := hSw.1.cell 1; have r2 := hSw.1.cell 2; have m8 := hSw.2.1.cell 8; unfold rnC at m8; rw [HVl.out] at m8; have vc := vs_cell hSw.2.2 (i := cn_) (by rw [HVl.out]; exact hcnl); rw [HZc.out] at vc; have l1 := hSw.1.lt; have l2 := hSw.2.1.lt; have l3 := hSw.2.2.lt; (first | (go_simp; done) | (go_simp; with_reducible rfl)))
                    focus assumption
                    (try simp only [Act.put, List.setIfInBounds_toArray, List.set_cons_zero, List.set_cons_succ])
                    refine' wpAnyH_take (i := 13) (v := _) ?_ ?_ ?_ ?_ ?_ ?_ ?_ ?_
                    rotate_left 2
                    focus (simp only [List.getElem?_toArray, List.getElem?_cons_succ, List.getElem?_cons_zero]; rfl)
                    focus kernel_rfl
                    focus kernel_rfl
                    focus kernel_rfl
                    focus exact (fun _ _ _ h => h)
                    refine Or.inl ⟨?_, ?_⟩
                    focus (go_simp; done)
                    focus (intro w hSw; have r1 := hSw.1.cell 1; have r2 := hSw.1.cell 2; have m8 := hSw.2.1.cell 8; unfold rnC at m8; rw [HVl.out] at m8; have vc := vs_cell hSw.2.2 (i := cn_) (by rw [HVl.out]; exact hcnl); rw [HZc.out] at vc; have l1 := hSw.1.lt; have l2 := hSw.2.1.lt; have l3 := hSw.2.2.lt; (first | (go_simp; done) | (go_simp; with_reducible rfl)))
                    focus assumption
                    (try simp only [Act.put, List.setIfInBounds_toArray, List.set_cons_zero, List.set_cons_succ])
                    refine' wpAnyH_take (i := 14) (v := _) ?_ ?_ ?_ ?_ ?_ ?_ ?_ ?_
                    rotate_left 2
                    focus (simp only [List.getElem?_toArray, List.getElem?_cons_succ, List.getElem?_cons_zero]; rfl)
                    focus kernel_rfl
                    focus kernel_rfl
                    focus kernel_rfl
                    focus exact (fun _ _ _ h => h)
                    refine Or.inl ⟨?_, ?_⟩
                    focus (go_simp; done)
                    focus (intro w hSw; have r1 := hSw.1.cell 1; have r2 := hSw.1.cell 2; have m8 := hSw.2.1.cell 8; unfold rnC at m8; rw [HVl.out] at m8; have vc := vs_cell hSw.2.2 (i := cn_) (by rw [HVl.out]; exact hcnl); rw [HZc.out] at vc; have l1 := hSw.1.lt; have l2 := hSw.2.1.lt; have l3 := hSw.2.2.lt; (first | (go_simp; done) | (go_simp; with_reducible rfl)))
                    focus assumption
                    (try simp only [Act.put, List.setIfInBounds_toArray, List.set_cons_zero, List.set_cons_succ])
                    refine' wpAnyH_take (i := 15) (v := _) ?_ ?_ ?_ ?_ ?_ ?_ ?_ ?_
                    rotate_left 2
                    focus (simp only [List.getElem?_toArray, List.getElem?_cons_succ, List.getElem?_cons_zero]; rfl)
                    focus kernel_rfl
                    focus kernel_rfl
                    focus kernel_rfl
                    focus exact (fun _ _ _ h => h)
                    refine Or.inl ⟨?_, ?_⟩
                    focus (go_simp; done)
                    focus (intro w hSw; have r1 := hSw.1.cell 1; have r2 := hSw.1.cell 2; have m8 := hSw.2.1.cell 8; unfold rnC at m8; rw [HVl.out] at m8; have vc := vs_cell hSw.2.2 (i := cn_) (by rw [HVl.out]; exact hcnl); rw [HZc.out] at vc; have l1 := hSw.1.lt; have l2 := hSw.2.1.lt; have l3 := hSw.2.2.lt; (first | (go_simp; done) | (go_simp; with_reducible rfl)))
                    focus assumption
                    (try simp only [Act.put, List.setIfInBounds_toArray, List.set_cons_zero, List.set_cons_succ])
                    refine wpAnyH_done (by kernel_rfl) ?_ _
                    have HQ7 := Lib.hid (show (Rt w #[.slice Ai g.ins.length ci, .int .i64 (V : Int), .int .i64 (K : Int), .slice Aa g.ars.length ca, .int .i64 0, .slice (some ⟨bo, off, none⟩) g.blks.length cb, .slice Aq g.pts.length cp, .slice Ah g.hds.length ch] #[.slice none 0 0, .slice none 0 0, .slice none 0 0, .slice none 0 0, .int .i64 0] lo Rb Vb Cb ⟨.slice Ai g.ins.length ci, .int .i64 (V : Int), .int .i64 (K : Int), .slice Aa g.ars.length ca, .int .i64 0, .slice (some ⟨bo, off, none⟩) g.blks.length cb, .slice Aq g.pts.length cp, .slice Ah g.hds.length ch⟩ (.slice (some ⟨gv, 0, none⟩) g.ars.length cv) us (.slice (some ⟨Hb, 0, none⟩) 4 4) (Tr.acts cs b.ops L) cd (cst + (L : Int)) (cl - 1 - (L : Int)) wr.drew) from HQ.out.below (below_drewN _ wr 1))
                    have HTb7 := Lib.hid (show Bk wr.drew tb 34 #[.slice (a1 ct) L (k1 ct), .int .i64 (cn_ : Int), .slice (a2 ct) 2 (k2 ct)] from HTb.out.below (below_drewN _ wr 1))
                    clear HQ HTb t0 t2 hHeld
                    generalize hW : wr.drew = W7 at HQ7 HTb7 ⊢
                    clear hW
                    obtain ⟨An, cn, en, hcn⟩ := HNe.out.opened
                    injection en with en1 en2 en3
                    obtain ⟨b4, off4, e4, hb4, y0⟩ := hcn 0 (by rw [HNl.out]; decide)
                    replace y0 := (HQ7.out.low.cell (p := ⟨b4, off4 + 0, none⟩) hb4).trans y0
                    rw [Nat.add_zero] at y0
                    have u2 := HTb7.out.cell 2
                    rw [en1, e4] at u2
                    obtain ⟨nv, hnv⟩ : ∃ z, b.next.getD 0 0 = z := ⟨_, rfl⟩
                    have HNv := Lib.hid hnv
                    rw [hnv] at y0
                    clear hnv hcn en1 en2 en3 e4 hb4
                    have HAt := Lib.hid (show ((Tr.its g (Tr.start g V xs n) (m + 1)).at_ : Int) = nv from by
                      show ((Tr.nxt g (Tr.pass g (Tr.its g (Tr.start g V xs n) m)) : Nat) : Int) = _
                      rw [HP.out]
                      unfold Tr.nxt
                      simp only
                      rw [HBe.out, HNl.out]
                      rw [if_pos (.inr (by unfold Tr.at_; rw [HCn.out, Int.toNat_natCast, HZc.out]; exact hz)), HNv.out]
                      have := HNxb.out.2 0 (by rw [HNl.out]; decide)
                      rw [HNv.out] at this
                      omega)
                    have HR7 := Lib.hid (show (Rt w #[.slice Ai g.ins.length ci, .int .i64 (V : Int), .int .i64 (K : Int), .slice Aa g.ars.length ca, .int .i64 0, .slice (some ⟨bo, off, none⟩) g.blks.length cb, .slice Aq g.pts.length cp, .slice Ah g.hds.length ch] #[.slice none 0 0, .slice none 0 0, .slice none 0 0, .slice none 0 0, .int .i64 0] lo Rb Vb Cb ⟨.slice Ai g.ins.length ci, .int .i64 (V : Int), .int .i64 (K : Int), .slice Aa g.ars.length ca, .int .i64 0, .slice (some ⟨bo, off, none⟩) g.blks.length cb, .slice Aq g.pts.length cp, .slice Ah g.hds.length ch⟩ (.slice (some ⟨gv, 0, none⟩) g.ars.length cv) us (.slice (some ⟨Hb, 0, none⟩) 4 4) (Tr.its g (Tr.start g V xs n) (m + 1)).s (Tr.its g (Tr.start g V xs n) (m + 1)).cnt (Tr.its g (Tr.start g V xs n) (m + 1)).steps (Tr.its g (Tr.start g V xs n) (m + 1)).left W7) from by
                      have h := HQ7.out
                      rw [show (Tr.its g (Tr.start g V xs n) (m + 1)).s = Tr.acts cs b.ops L from by show (Tr.pass g (Tr.its g (Tr.start g V xs n) m)).s = _; rw [HP.out], show (Tr.its g (Tr.start g V xs n) (m + 1)).cnt = cd from by show (Tr.pass g (Tr.its g (Tr.start g V xs n) m)).cnt = _; rw [HP.out], show (Tr.its g (Tr.start g V xs n) (m + 1)).steps = cst + (L : Int) from by show (Tr.pass g (Tr.its g (Tr.start g V xs n) m)).steps = _; rw [HP.out], show (Tr.its g (Tr.start g V xs n) (m + 1)).left = cl - 1 - (L : Int) from by show (Tr.pass g (Tr.its g (Tr.start g V xs n) m)).left = _; rw [HP.out]]
                      exact h)
                    have HLf := Lib.hid (show (Tr.its g (Tr.start g V xs n) (m + 1)).left = cl - 1 - (L : Int) from by show (Tr.pass g (Tr.its g (Tr.start g V xs n) m)).left = _; rw [HP.out])
                    clear HQ7 HTb7
                    go_wp2
                    clear u2 y0
                    go_roundw
                    case rel => exact ⟨m + 1, by have := HMl.out; omega, by rw [HAt.out], HR7⟩
                    case measure =>
                      show leftOf Rb _ < leftOf Rb _
                      rw [HR7.out.rn.leftOf, HT0.out.rn.leftOf, HLf.out]
                      omega
end Go.Proofs.Ytojnhdkclabkgaa
