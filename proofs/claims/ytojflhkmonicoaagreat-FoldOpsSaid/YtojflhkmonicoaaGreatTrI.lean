/- The specification's inputs, and what a run's beginning needs: copy, an array more. No condition. A run of the specification: its state in memory. No condition. make of rows of booleans and integers. No condition. -/
import Derived.Test.YtojflhkmonicoaaGreatTrDo
import Derived.Test.YtojflhkmonicoaaGreatTrM
import Derived.Laws.CopyOwn
import Derived.Test.YtojflhkmonicoaaGreatGrParts
namespace Go.Proofs.YtojflhkmonicoaaGreat
open Go.RowKit
set_option linter.unusedVariables false
set_option linter.unusedSimpArgs false
attribute [local go_sem] y_undef
/-- copy onto a row that is known whole. -/
theorem wpList_copy_g {P : Program} {w : World} {ops : Array Oper} {rest : List Oper} {o : Oper} {a : Act} {Q : Exit → Act → World → Prop} (hgd : o.guard = none) (d s : Operand) (dT sT : TypeId)
    (ho : o.op = .call { callee := .builtin .copy, args := #[d, s], argTypes := #[dT, sT] }) (elem : TypeId) (hu : P.underlying dT = some (.slice elem)) (hsz : (P.info? elem).map (·.size) = some 1)
    (g dLen dCap : Nat) (hd : a.eval d = .slice (some ⟨g, 0, none⟩) dLen dCap) (vs : Value) (m : Nat) (cs : List Value) (hs : a.eval s = vs) (hr : RowIn 1 w vs m cs) (hm : m ≤ dLen)
    (cur : Array Value) (t : TypeId) (hg : Bk w g t cur) (hfit : cs.length ≤ cur.size) (h1 : ∀ v ∈ cs, v.oneCell' = true)
    (h : ∀ w', Bk w' g t (cs ++ cur.toList.drop cs.length).toArray → w.grownBy w' (some g) → wpList P ops Q rest (a.put o.dst (goInt cs.length)) w') : wpList P ops Q (o :: rest) a w := by
  obtain ⟨A, c, rfl, hl, hcs⟩ := hr
  rw [Nat.mul_one] at hl
  by_cases h0 : m = 0
  · have e0 : cs = [] := List.eq_nil_of_length_eq_zero (by omega)
    subst e0
    refine wpList_copy_nothing hgd d s dT sT ho elem hu hsz _ A dLen dCap m c hd hs (by subst h0; simp) ?_
    exact h w (by simpa using hg) (World.grownBy.refl w _)
  · obtain ⟨b, off, rfl, hlt, hc⟩ := hcs.resolve_left h0
    refine wpList_copy_own hgd d s dT sT ho elem hu hsz g 0 dLen dCap _ m c hd hs cur t hg cs (by rw [hl]; exact (Nat.min_eq_left hm).symm) (fun j v hj => ?_) (by simpa using hfit) h1 ?_
    · rw [show (⟨b, off, none⟩ : Addr).add j = ⟨b, off + j, none⟩ from by unfold Addr.add; split <;> simp_all]
      exact hc j v hj
    · refine h _ ?_ ⟨rfl, rfl, rfl, by simp [World.setRow], fun k hk hne => setRow_other w g k _ (fun e => hne (by rw [e]))⟩
      have := setRow_heap w g cur (List.take 0 cur.toList ++ (cs ++ List.drop (0 + cs.length) cur.toList)).toArray t (0, 0) hg
      simpa [Bk] using this
section
variable {lo Rb Vb : Nat} {x : G8} {va hv va' xv : Value} {us : List Value} {s : Tr.St} {steps left : Int} {w u u' : World} {q : List Int}
/-- One array more. -/
theorem Rn.push (h : Rn lo Rb Vb x va us hv s steps left u) (hO : u.ownsRow lo 3 1 xv q.length (q.map (Value.int .i64))) (hz : ∀ z ∈ us, Ap xv z) (hx : xv.ownBlock ≠ some Vb) (hown : u'.ownsRow lo 38 1 va' (s.ars.length + 1) (us ++ [xv])) (hg : u.grownBy u' va.ownBlock)
    (hv' : va'.ownBlock = va.ownBlock ∨ va'.ownBlock = some u.heap.size) : Rn lo Rb Vb x va' (us ++ [xv]) hv { s with ars := s.ars ++ [q] } steps left (u'.setCell ⟨Rb, 9, none⟩ va') := by
  have hr1 := bk_grown_t h.rb h.ar.1 (by decide) hg
  have hm := h.ar.pushx hO (ap_type hO h.ar.1 (by decide)) hz hown hg hv'
  have hne : Vb ≠ Rb := bk_ty h.vb h.rb (by decide)
  refine ⟨hr1.set 9 va', (bk_grown_t h.vb h.ar.1 (by decide) hg).far (p := ⟨Rb, 9, none⟩) hne _, hm.store_r hr1 (by decide) (by decide), fun z hzm => ?_⟩
  rcases List.mem_append.1 hzm with hm | hm
  · exact h.ap z hm
  · obtain rfl : z = xv := by simpa using hm
    exact hx
end
set_option maxHeartbeats 8000000 in
theorem rinputs_any (l : List (ByteArray × Int × Int)) (xs : List Int) (vi vx : Value) (w : World) (hi : InsIn w vi l) (hx : NumsIn w vx xs) (hl : xs.length = l.length) (hm : l.length ≤ 1000) (hr : ∀ i, i < l.length → (l.getD i Gr.in0).2.1 ≤ xs.getD i 0 ∧ xs.getD i 0 ≤ (l.getD i Gr.in0).2.2) :
    Calls Tryz.prog 22 #[vi, vx] w fun e w' => e = .returned (.bool true) ∧ Below w.heap.size w w' := by
  obtain ⟨Ai, ci, rfl, hic⟩ := hi.opened
  obtain ⟨Ax, cx, rfl, hxc⟩ := hx.opened
  obtain ⟨n, hn⟩ : ∃ n, l.length = n := ⟨_, rfl⟩
  rw [hl, hn] at hxc ⊢
  rw [hn] at hic hr hm
  have HI := Lib.hid hic
  have HX := Lib.hid hxc
  have HR := Lib.hid hr
  clear hi hx hl hic hxc hr hn
  have hB := Lib.hid (Below.refl w.heap.size w)
  go_enter Tryz.func22, Tryz.ntmps22
  go_wp2
  go_loopw [5] (fun i wr => ∃ k : Nat, k ≤ n ∧ i = .int .i64 k ∧ Hid (Below w.heap.size w wr)) (fun i _ => n - (intOf i).toNat)
  case atStart => exact ⟨0, Nat.zero_le _, rfl, hB⟩
  case round =>
    clear hB
    obtain ⟨k, hk, rfl, hB⟩ := hrel
    by_cases hlt : k < n
    · have hlt' : (k : Int) < n := by omega
      have hlt0 : (0 : Int) ≤ (k : Int) := by omega
      obtain ⟨bi, oi, rfl, hbi, y0, y1, y2⟩ := HI.out k hlt
      obtain ⟨bx, ox, rfl, hbx, z0⟩ := HX.out k hlt
      replace y1 := (hB.out.cell (p := ⟨bi, oi + k * 3 + 1, none⟩) hbi).trans y1
      replace y2 := (hB.out.cell (p := ⟨bi, oi + k * 3 + 2, none⟩) hbi).trans y2
      replace z0 := (hB.out.cell (p := ⟨bx, ox + k, none⟩) hbx).trans z0
      clear y0
      obtain ⟨r1, r2⟩ := HR.out k hlt
      obtain ⟨lo, hlo⟩ : ∃ z, (l.getD k Gr.in0).2.1 = z := ⟨_, rfl⟩
      obtain ⟨hi, hhi⟩ : ∃ z, (l.getD k Gr.in0).2.2 = z := ⟨_, rfl⟩
      obtain ⟨x, hx⟩ : ∃ z, xs.getD k 0 = z := ⟨_, rfl⟩
      rw [hlo] at y1 r1
      rw [hhi] at y2 r2
      rw [hx] at z0 r1 r2
      have n1 : ¬ x < lo := by omega
      have n2 : ¬ hi < x := by omega
      have hbi2 : bi < wr.heap.size := Nat.lt_of_lt_of_le hbi hB.out.size
      have hbx2 : bx < wr.heap.size := Nat.lt_of_lt_of_le hbx hB.out.size
      clear hlo hhi hx r1 r2 hbi hbx
      go_wp2
      go_quiet (fail)
      have HW := Lib.hid fun (m : Nat) => (hB.out.trans ((below_drewN _ wr m).mono hB.out.size) : Below w.heap.size w (wr.drewN m))
      clear hB y1 y2 z0
      go_wp2
      go_roundw
      case rel => exact ⟨k + 1, by omega, by first | rfl | go_num, Lib.hid (HW.out _)⟩
      case measure => simp [intOf]; omega
    · have hlt' : ¬ (k : Int) < n := by omega
      obtain rfl : n = k := by omega
      go_wp2
      go_ret
      exact ⟨rfl, hB.out⟩
end Go.Proofs.YtojflhkmonicoaaGreat
namespace Go.Proofs.YtojflhkmonicoaaGreat
open Go.RowKit
set_option linter.unusedVariables false
set_option linter.unusedSimpArgs false
/-- The boxes of Run's graph and result, the run and the counts. -/
structure Rt (w : World) (gc zc : Array Value) (lo Rb Vb Cb : Nat) (x : G8) (va : Value) (us : List Value) (hv : Value) (s : Tr.St) (cnt : List Int) (steps left : Int) (u : World) : Prop where
  low : Below w.heap.size w u
  gb : Bk u w.heap.size 28 gc
  zb : Bk u (w.heap.size + 1) 47 zc
  rn : Rn lo Rb Vb x va us hv s steps left u
  cb : Bk u Cb 3 (cnt.map (Value.int .i64)).toArray
  hl : w.heap.size + 1 < lo
  hR : w.heap.size + 1 < Rb
  hV : w.heap.size + 1 < Vb
  hC : w.heap.size + 1 < Cb
  hCV : Cb ≠ Vb
  hCu : ∀ z ∈ us, z.ownBlock ≠ some Cb
section
variable {w u u' : World} {gc zc : Array Value} {lo Rb Vb Cb : Nat} {x : G8} {va hv : Value} {us : List Value} {s s' : Tr.St} {cnt : List Int} {steps left steps' left' : Int}
theorem Rt.below (h : Rt w gc zc lo Rb Vb Cb x va us hv s cnt steps left u) (hb : Below u.heap.size u u') : Rt w gc zc lo Rb Vb Cb x va us hv s cnt steps left u' := ⟨blt h.low hb, h.gb.below hb, h.zb.below hb, h.rn.below hb, h.cb.below hb, h.hl, h.hR, h.hV, h.hC, h.hCV, h.hCu⟩
theorem Rt.us_lo (h : Rt w gc zc lo Rb Vb Cb x va us hv s cnt steps left u) {z : Value} (hz : z ∈ us) {k : Nat} (hk : z.ownBlock = some k) : lo ≤ k := by
  obtain ⟨i, hi, rfl⟩ := List.getElem_of_mem hz
  exact ((h.rn.ar.2.1 i _ (List.getElem?_eq_getElem hi)).lt k hk).1
theorem Rt.mv (h : Rt w gc zc lo Rb Vb Cb x va us hv s cnt steps left u) (hm : Mv Rb Vb us u u') (hr : Rn lo Rb Vb x va us hv s' steps' left' u') : Rt w gc zc lo Rb Vb Cb x va us hv s' cnt steps' left' u' := by
  have h1 := h.hl
  have h2 := h.hR
  have h3 := h.hV
  have h4 := h.low.size
  refine ⟨⟨hm.os.trans h.low.os, hm.tape.trans h.low.tape, hm.output.trans h.low.output, Nat.le_trans h4 hm.size, fun j hj => (hm.block j (by omega) (by omega) (by omega) (fun z hz e => by have := h.us_lo hz e; omega)).trans (h.low.block j hj)⟩, hm.bk h.gb (by omega) (by omega) (fun z hz e => by have := h.us_lo hz e; omega), hm.bk h.zb (by omega) (by omega) (fun z hz e => by have := h.us_lo hz e; omega), hr, hm.bk h.cb (bk_ty h.cb h.rn.rb (by decide)) h.hCV h.hCu, h.hl, h.hR, h.hV, h.hC, h.hCV, h.hCu⟩
/-- A count is set. -/
theorem Rt.count (h : Rt w gc zc lo Rb Vb Cb x va us hv s cnt steps left u) (i : Nat) (n : Int) : Rt w gc zc lo Rb Vb Cb x va us hv s (cnt.set i n) steps left (u.setCell ⟨Cb, i, none⟩ (.int .i64 n)) := by
  have h1 := h.hC
  refine ⟨h.low.setCell (by show w.heap.size ≤ Cb; omega) _, h.gb.far (by show w.heap.size ≠ Cb; omega) _, h.zb.far (by show w.heap.size + 1 ≠ Cb; omega) _, ⟨h.rn.rb.far (p := ⟨Cb, i, none⟩) (bk_ty h.rn.rb h.cb (by decide)) _, h.rn.vb.far (p := ⟨Cb, i, none⟩) (Ne.symm h.hCV) _, ⟨own_store_b h.rn.ar.1 h.cb (by decide), fun j y hy => own_store (h.rn.ar.2.1 j y hy) (h.hCu y (List.mem_of_getElem? hy)), h.rn.ar.2.2⟩, h.rn.ap⟩, ?_, h.hl, h.hR, h.hV, h.hC, h.hCV, h.hCu⟩
  have := h.cb.set i (.int .i64 n)
  rw [List.setIfInBounds_toArray, ← List.map_set] at this
  exact this
theorem Rt.res (h : Rt w gc zc lo Rb Vb Cb x va us hv s cnt steps left u) (i : Nat) (z : Value) : Rt w gc (zc.setIfInBounds i z) lo Rb Vb Cb x va us hv s cnt steps left (u.setCell ⟨w.heap.size + 1, i, none⟩ z) := by
  have h1 := h.hl
  have h2 := h.hR
  have h3 := h.hV
  have h4 := h.hC
  refine ⟨h.low.setCell (by show w.heap.size ≤ w.heap.size + 1; omega) _, h.gb.far (by show w.heap.size ≠ w.heap.size + 1; omega) _, h.zb.set i z, ⟨h.rn.rb.far (p := ⟨w.heap.size + 1, i, none⟩) (by show Rb ≠ w.heap.size + 1; omega) _, h.rn.vb.far (p := ⟨w.heap.size + 1, i, none⟩) (by show Vb ≠ w.heap.size + 1; omega) _, ⟨own_store_b h.rn.ar.1 h.zb (by decide), fun j y hy => own_store_b (h.rn.ar.2.1 j y hy) h.zb (by decide), h.rn.ar.2.2⟩, h.rn.ap⟩, h.cb.far (by show Cb ≠ w.heap.size + 1; omega) _, h.hl, h.hR, h.hV, h.hC, h.hCV, h.hCu⟩
/-- The same, ahead of the counts. -/
structure Rp (w : World) (gc zc : Array Value) (lo Rb Vb : Nat) (x : G8) (va : Value) (us : List Value) (hv : Value) (s : Tr.St) (steps left : Int) (u : World) : Prop where
  low : Below w.heap.size w u
  gb : Bk u w.heap.size 28 gc
  zb : Bk u (w.heap.size + 1) 47 zc
  rn : Rn lo Rb Vb x va us hv s steps left u
  hl : w.heap.size + 1 < lo
  hR : w.heap.size + 1 < Rb
  hV : w.heap.size + 1 < Vb
theorem Rp.below (h : Rp w gc zc lo Rb Vb x va us hv s steps left u) (hb : Below u.heap.size u u') : Rp w gc zc lo Rb Vb x va us hv s steps left u' := ⟨blt h.low hb, h.gb.below hb, h.zb.below hb, h.rn.below hb, h.hl, h.hR, h.hV⟩
theorem Rp.push {va' xv : Value} {q : List Int} (h : Rp w gc zc lo Rb Vb x va us hv s steps left u) (hO : u.ownsRow lo 3 1 xv q.length (q.map (Value.int .i64))) (hz : ∀ z ∈ us, Ap xv z) (hx : xv.ownBlock ≠ some Vb) (hown : u'.ownsRow lo 38 1 va' (s.ars.length + 1) (us ++ [xv])) (hg : u.grownBy u' va.ownBlock)
    (hv' : va'.ownBlock = va.ownBlock ∨ va'.ownBlock = some u.heap.size) : Rp w gc zc lo Rb Vb x va' (us ++ [xv]) hv { s with ars := s.ars ++ [q] } steps left (u'.setCell ⟨Rb, 9, none⟩ va') := by
  have h1 := h.hl
  have h2 := h.hR
  have hl := h.low.size
  refine ⟨(h.low.grown hg hl (fun k hk => by have := (h.rn.ar.1.lt k hk).1; omega)).setCell (by show w.heap.size ≤ Rb; omega) _, (bk_grown_b h.gb h.rn.ar.1 (by omega) hg).far (p := ⟨Rb, 9, none⟩) (by show w.heap.size ≠ Rb; omega) _, (bk_grown_b h.zb h.rn.ar.1 (by omega) hg).far (p := ⟨Rb, 9, none⟩) (by show w.heap.size + 1 ≠ Rb; omega) _, h.rn.push hO hz hx hown hg hv', h.hl, h.hR, h.hV⟩
/-- What is left, read in memory. -/
def leftOf (Rb : Nat) (u : World) : Nat := ((u.cell? ⟨Rb, 12, none⟩).map intOf).getD 0 |>.toNat
theorem Rn.leftOf (h : Rn lo Rb Vb x va us hv s steps left u) : leftOf Rb u = left.toNat := by
  have c := h.rb.cell 12
  unfold rnC at c
  unfold Proofs.YtojflhkmonicoaaGreat.leftOf
  rw [c]
  simp [intOf]
end
theorem Tr.cnt_bd (g : Gr.G) (c : Tr.Cf) (h0 : ∀ i, c.cnt.getD i 0 = 0) : ∀ n i, 0 ≤ (Tr.its g c n).cnt.getD i 0 ∧ (Tr.its g c n).cnt.getD i 0 ≤ n
  | 0, i => by show 0 ≤ c.cnt.getD i 0 ∧ c.cnt.getD i 0 ≤ _; rw [h0]; omega
  | n + 1, i => by
    have ih := Tr.cnt_bd g c h0 n
    show 0 ≤ ((Tr.its g c n).cnt.set _ _).getD i 0 ∧ ((Tr.its g c n).cnt.set _ _).getD i 0 ≤ _
    have h1 := ih i
    have h2 := ih (Tr.its g c n).at_
    rw [List.getD, List.getElem?_set]
    by_cases e : (Tr.its g c n).at_ = i
    · subst e
      rw [if_pos rfl]
      by_cases hl : (Tr.its g c n).at_ < (Tr.its g c n).cnt.length
      · rw [if_pos hl]
        simp only [Option.getD_some]
        omega
      · rw [if_neg hl]
        simp only [Option.getD_none]
        omega
    · rw [if_neg e]
      have h3 : (Tr.its g c n).cnt[i]?.getD 0 = (Tr.its g c n).cnt.getD i 0 := rfl
      rw [h3]
      omega
/-- What Run answers. -/
def RunPost (K : Nat) (c : Tr.Cf) (w : World) (e : Ending) (w' : World) : Prop :=
  ∃ v1 v2 v3 v4, e = .returned (.tuple #[.agg #[v1, v2, v3, v4, .int .i64 c.steps], .int .i64 0]) ∧ Below w.heap.size w w' ∧ NumsIn w' v1 (c.s.vs.take K) ∧ LstsIn w' v2 c.s.ars ∧ LstsIn w' v3 [] ∧ NumsIn w' v4 c.cnt
end Go.Proofs.YtojflhkmonicoaaGreat
namespace Go.Proofs.YtojflhkmonicoaaGreat
open Go.RowKit
set_option linter.unusedVariables false
set_option linter.unusedSimpArgs false
theorem minfo_boo : (Tryz.prog.info? 4).map (fun i => (i.zero, i.size, i.bytes)) = some (some (.bool false), 1, 1) := by kernel_rfl
theorem minfo_int : (Tryz.prog.info? 3).map (fun i => (i.zero, i.size, i.bytes)) = some (some (.int .i64 0), 1, 8) := by kernel_rfl
theorem slRow_ones (n : Nat) (z : Value) (hz : z.cells = #[z]) : madeCells z.cells n = slRow n (fun _ => z) := by
  rw [hz]
  unfold madeCells
  apply Array.ext
  · simp [slRow_size]
  · intro a ha hb
    have h := slRow_cell n (fun _ => z) (show a < n by simpa using ha)
    rw [Array.getElem?_eq_getElem hb] at h
    injection h with h
    rw [h, Array.getElem_map, Array.getElem_range]
    show (#[z])[a % 1]! = _
    rw [Nat.mod_one]
    rfl
theorem mk_bools (n : Nat) (hn : n ≤ 1000) (u : World) : (Instr.makeSlice 65 (.int .i64 (n : Int)) (.int .i64 (n : Int))).run Tryz.prog u = .ok (.slice (some ⟨u.heap.size, 0, none⟩) n n) (u.alloc (.cells (slRow n (fun _ => .bool false)) 4)) := by
  obtain ⟨i, hi, hz, hs, hby⟩ := info_parts minfo_boo
  have h := run_make (P := Tryz.prog) u 65 4 i _ Tryz.underlying65 hi hz .i64 .i64 n n (by omega) (by omega) (by rw [hby]; omega) (by omega)
  rw [h, hs, Int.toNat_natCast, Nat.mul_one, slRow_ones _ _ (by kernel_rfl)]
theorem mk_ints (n : Nat) (hn : n ≤ 1000) (u : World) : (Instr.makeSlice 38 (.int .i64 (n : Int)) (.int .i64 (n : Int))).run Tryz.prog u = .ok (.slice (some ⟨u.heap.size, 0, none⟩) n n) (u.alloc (.cells (slRow n (fun _ => .int .i64 0)) 3)) := by
  obtain ⟨i, hi, hz, hs, hby⟩ := info_parts minfo_int
  have h := run_make (P := Tryz.prog) u 38 3 i _ Tryz.underlying38 hi hz .i64 .i64 n n (by omega) (by omega) (by rw [hby]; omega) (by omega)
  rw [h, hs, Int.toNat_natCast, Nat.mul_one, slRow_ones _ _ (by kernel_rfl)]
/-- A row of zeros, as numbers. -/
theorem slRow_nums (n : Nat) : slRow n (fun _ => .int .i64 0) = ((List.replicate n (0 : Int)).map (Value.int .i64)).toArray := by
  unfold slRow
  congr 1
  rw [List.map_replicate]
  apply List.ext_getElem (by simp)
  intro i h1 h2
  simp
end Go.Proofs.YtojflhkmonicoaaGreat
