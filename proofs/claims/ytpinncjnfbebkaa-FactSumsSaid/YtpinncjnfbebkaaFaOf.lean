/- The specification of layer 11: Of. No condition. -/
import Derived.Test.YtpinncjnfbebkaaFaRef
import Derived.Deep.RegionLaw
import Derived.Laws.MakeOwn
import Derived.Laws.OwnMore
import Derived.Deep.DeepCutAuto
import Derived.Deep.CutBlock
import Derived.Deep.AppendLies
import Derived.Deep.Onto
namespace Go.Proofs.Ytpinncjnfbebkaa
open Go.RowKit
set_option linter.unusedVariables false
set_option linter.unusedSimpArgs false
attribute [local go_sem] y_undef
/-- What Of answers. -/
def OfPost (r : Fa.Tms × Int × Int) (w : World) (e : Ending) (w' : World) : Prop := ∃ v', e = .returned (.tuple #[.agg #[v', .int .i64 r.2.1], .int .i64 r.2.2]) ∧ w'.ownsRow w.heap.size 36 2 v' r.1.length (r.1.flatMap prCells) ∧ Below w.heap.size w w'
theorem own_two {u : World} {base base' g o o' : Nat} {e : TypeId} {size n : Nat} {v : Value} {xs : List Value} (h : u.ownsRow base e size v n xs) (hg : g < base) (hb : base' ≤ base) (x y : Value) : ((u.setCell ⟨g, o, none⟩ x).setCell ⟨g, o', none⟩ y).ownsRow base' e size v n xs :=
  World.ownsRow.mono (ownsRow_setCell_below (ownsRow_setCell_below h hg x) hg y) hb
theorem prs_nil (w : World) : PrsIn w (.slice none 0 0) [] := RowIn.nil w 2
/-- The result's box, in block w.heap.size. -/
def Rb (w u : World) : Prop := Ahead 1 w u ∧ u.cell? ⟨w.heap.size, 0, none⟩ = some (.slice none 0 0) ∧ u.cell? ⟨w.heap.size, 1, none⟩ = some (.int .i64 0) ∧ ∀ o, u.frozen? ⟨w.heap.size, o, none⟩ = false
theorem Rb.below {w u u' : World} (h : Rb w u) (hb : Below u.heap.size u u') : Rb w u' :=
  ⟨h.1.below hb, h.1.cell0 hb h.2.1 (by omega), h.1.cell0 hb h.2.2.1 (by omega), fun o => (hb.frozen (p := ⟨w.heap.size, o, none⟩) (h.1.lt0 (by omega))).trans (h.2.2.2 o)⟩
theorem rb_new (w : World) : Rb w (w.alloc (.cells #[.slice none 0 0, .int .i64 0] 30)) := ⟨(Ahead.refl w).alloc _, by simp, by simp, fun o => by simp⟩
theorem Try.infoInt : (Try.prog.info? 3).map (fun i => (i.zero, i.size, i.bytes)) = some (some (.int .i64 0), 1, 8) := by kernel_rfl
theorem make256 (u : World) : (Instr.makeSlice 22 (.int .i64 256) (.int .i64 256)).run Try.prog u = .ok (.slice (some ⟨u.heap.size, 0, none⟩) 256 256) (u.alloc (.cells (numRow 256 (fun _ => 0)) 3)) := by
  obtain ⟨i, hi, hz, hs, hby⟩ := info_parts Try.infoInt
  have h := run_makeSlice (P := Try.prog) u 22 3 i (.int .i64 0) Try.underlying22 hi hz .i64 .i64 256 256 (by omega) (by omega) (by rw [hs]; decide) (by rw [hby]; decide) (by omega)
  rw [h, hs]
  have e : madeCells (Value.int .i64 0).cells (Int.toNat 256 * 1) = numRow 256 (fun _ => 0) := by kernel_rfl
  rw [e]
  rfl
/-- The sums, in a block of their own, beside the result's box. -/
def Ofst (w : World) (g : Nat) (f : Nat → Int) (u : World) : Prop := Rb w u ∧ Bk u g 3 (numRow 256 f) ∧ w.heap.size < g
theorem Ofst.below {w u u' : World} {g : Nat} {f : Nat → Int} (h : Ofst w g f u) (hb : Below u.heap.size u u') : Ofst w g f u' := ⟨h.1.below hb, h.2.1.below hb, h.2.2⟩
theorem Ofst.set {w u : World} {g : Nat} {f f' : Nat → Int} (h : Ofst w g f u) (i : Nat) (x : Int) (hf : ∀ j, f' j = if j = i then x else f j) : Ofst w g f' (u.setCell ⟨g, i, none⟩ (.int .i64 x)) := by
  obtain ⟨⟨hA, b0, b1, bf⟩, hB, hg⟩ := h
  refine ⟨⟨hA.set (by omega) _, ?_, ?_, fun o => by simpa using bf o⟩, ?_, hg⟩
  · rw [World.cell?_setCell_far _ _ _ _ (by show g ≠ w.heap.size; omega)]; exact b0
  · rw [World.cell?_setCell_far _ _ _ _ (by show g ≠ w.heap.size; omega)]; exact b1
  · rw [← numRow_set 256 f f' i x hf]; exact hB.set i _
/-- The fact in the making: block B, behind the sums'; what its cell holds and the row of its terms. -/
def Fm (w : World) (g B : Nat) (f : Nat → Int) (most : Int) (c v : Value) (q : Fa.Tms) (u : World) : Prop :=
  Ofst w g f u ∧ g < B ∧ Bk u B 30 #[c, .int .i64 most] ∧ u.ownsRow (B + 1) 36 2 v q.length (q.flatMap prCells)
section
variable {w u u' : World} {g B : Nat} {f : Nat → Int} {most : Int} {c v : Value} {q : Fa.Tms}
theorem Fm.below (h : Fm w g B f most c v q u) (hb : Below u.heap.size u u') : Fm w g B f most c v q u' :=
  ⟨h.1.below hb, h.2.1, h.2.2.1.below hb, h.2.2.2.kept (row := none) ⟨hb.os, hb.tape, hb.output, hb.size, fun k hk _ => hb.block k hk⟩ (by cases hv : v.ownBlock <;> simp)⟩
theorem Fm.alloc (h : Fm w g B f most c v q u) (o : Obj) : Fm w g B f most c v q (u.alloc o) := h.below ((Below.refl _ _).alloc (Nat.le_refl _) o)
theorem Fm.app (h : Fm w g B f most c v q u) {v' : Value} {x : Int × Int} (hown : u'.ownsRow (B + 1) 36 2 v' (q.length + 1) (q.flatMap prCells ++ prCells x)) (hg : u.grownBy u' v.ownBlock) : Fm w g B f most c v' (q ++ [x]) u' := by
  obtain ⟨⟨⟨hA, b0, b1, bf⟩, hB, hgw⟩, hgB, hBk, hO⟩ := h
  have hr : ∀ k, v.ownBlock = some k → B + 1 ≤ k := fun k hk => (hO.lt k hk).1
  have hlt := hBk.lt
  have e0 : u'.heap[w.heap.size]? = u.heap[w.heap.size]? := hg.block _ (by omega) (fun e => by have := hr _ e.symm; omega)
  have e1 : u'.heap[g]? = u.heap[g]? := hg.block _ (by omega) (fun e => by have := hr _ e.symm; omega)
  have e2 : u'.heap[B]? = u.heap[B]? := hg.block _ (by omega) (fun e => by have := hr _ e.symm; omega)
  refine ⟨⟨⟨⟨hA.1.grown hg hA.1.size (fun k hk => by have := hr k hk; omega), by have := hg.size; have := hA.2; omega⟩, ?_, ?_, fun o => ?_⟩, e1.trans hB, hgw⟩, hgB, e2.trans hBk, by simpa using hown⟩
  · exact (World.cell?_of_block (a := ⟨w.heap.size, 0, none⟩) e0).trans b0
  · exact (World.cell?_of_block (a := ⟨w.heap.size, 1, none⟩) e0).trans b1
  · exact (World.frozen?_of_block (a := ⟨w.heap.size, o, none⟩) e0).trans (bf o)
theorem Fm.put (h : Fm w g B f most c v q u) : Fm w g B f most v v q (u.setCell ⟨B, 0, none⟩ v) := by
  obtain ⟨⟨⟨hA, b0, b1, bf⟩, hB, hgw⟩, hgB, hBk, hO⟩ := h
  have hlt := hBk.lt
  refine ⟨⟨⟨hA.set (by omega) _, ?_, ?_, fun o => by simpa using bf o⟩, hB.far (by show g ≠ B; omega) _, hgw⟩, hgB, by simpa using hBk.set 0 v, ownsRow_setCell_below hO (by show B < B + 1; omega) _⟩
  · rw [World.cell?_setCell_far _ _ _ _ (by show B ≠ w.heap.size; omega)]; exact b0
  · rw [World.cell?_setCell_far _ _ _ _ (by show B ≠ w.heap.size; omega)]; exact b1
end
theorem Try.infoTm : (Try.prog.info? 36).map (fun i => (i.zero, i.size, i.bytes)) = some (some (.agg #[.int .i64 0, .int .i64 0]), 2, 16) := by kernel_rfl
set_option maxRecDepth 100000 in
set_option maxHeartbeats 16000000 in
theorem rof_any (l : Fa.Tms) (most : Int) (v : Value) (r : Fa.Tms × Int × Int) (w : World) (hv : PrsIn w v l) (hm : l.length ≤ maxLen) (hr : Fa.ofR l most = r) :
    Calls Try.prog 25 #[v, .int .i64 most] w (OfPost r w) := by
  have HB := Lib.hid (rb_new w)
  obtain ⟨A, c, rfl, ho⟩ := hv.opened
  have HO := Lib.hid ho
  unfold maxLen at hm
  obtain ⟨n, hn⟩ : ∃ n, l.length = n := ⟨_, rfl⟩
  have HN := Lib.hid hn
  have HR := Lib.hid hr
  rw [hn] at hm HO ⊢
  clear hv ho hn hr
  obtain ⟨hbx, b0, b1, bf⟩ := HB.out
  have hf0 := bf 0
  have hf1 := bf 1
  by_cases h1 : 1024 < n
  · have h1' : (1024 : Int) < n := by omega
    have HE := Lib.hid (HR.out.symm.trans (Fa.of_long (by have := HN.out; omega)))
    go_enter Try.func25, Try.ntmps25
    go_wp2
    refine bodyPost_ret (v := .tuple #[.agg #[.slice none 0 0, .int .i64 0], .int .i64 4]) ?_ rfl ⟨_, by rw [HE.out], by rw [HE.out]; exact World.ownsRow_nil _ _ _ _, by first | exact hbx.1 | exact ((hbx.set (Nat.le_refl _) _).set (Nat.le_refl _) _).1⟩
    simp [results, Try.results25, go_sem, b0, b1]
  · have h1' : ¬ (1024 : Int) < n := by omega
    cases h2 : Fa.inC most
    · have HI := Lib.hid h2
      have HE := Lib.hid (HR.out.symm.trans (Fa.of_most (by have := HN.out; omega) h2))
      clear h2
      go_enter Try.func25, Try.ntmps25
      go_wp2_with (go_at_call 45; refine (rin_any most false HI.out _).mono ?_; rintro e w' ⟨rfl, rfl⟩)
      refine bodyPost_ret (v := .tuple #[.agg #[.slice none 0 0, .int .i64 0], .int .i64 3]) ?_ rfl ⟨_, by rw [HE.out], by rw [HE.out]; exact World.ownsRow_nil _ _ _ _, by first | exact hbx.1 | exact ((hbx.set (Nat.le_refl _) _).set (Nat.le_refl _) _).1⟩
      simp [results, Try.results25, go_sem, b0, b1]
    · have HI := Lib.hid h2
      clear h2
      have hmk := make256 (w.alloc (.cells #[.slice none 0 0, .int .i64 0] 30))
      simp only [size_alloc] at hmk
      go_enter Try.func25, Try.ntmps25
      go_wp2_with (go_at_call 45; refine (rin_any most true HI.out _).mono ?_; rintro e w' ⟨rfl, rfl⟩)
      have HB1 := Lib.hid (show Ofst w (w.heap.size + 1) (fun o => Fa.sumTo l o 0) ((w.alloc (.cells #[.slice none 0 0, .int .i64 0] 30)).alloc (.cells (numRow 256 (fun _ => 0)) 3)) from
        ⟨HB.out.below ((Below.refl _ _).alloc (Nat.le_refl _) _), by rw [show w.heap.size + 1 = (w.alloc (.cells #[.slice none 0 0, .int .i64 0] 30)).heap.size by simp]; exact Bk.new _ _ _, by omega⟩)
      clear b0 b1 bf hf0 hf1 hbx
      go_loopw [7] (fun i wr => ∃ k : Nat, k ≤ n ∧ i = .int .i64 k ∧ Hid ((∀ j, j < k → Fa.tbad (l.getD j (0, 0)) = false) ∧ Ofst w (w.heap.size + 1) (fun o => Fa.sumTo l o k) wr)) (fun i _ => n - (intOf i).toNat)
      case atStart => exact ⟨0, Nat.zero_le _, rfl, Lib.hid ⟨fun j hj => by omega, HB1.out⟩⟩
      case round =>
        clear hmk
        obtain ⟨k, hk, rfl, HK⟩ := hrel
        obtain ⟨⟨hbx, b0, b1, bf⟩, hB, hg⟩ := HK.out.2
        have hf0 := bf 0
        have hf1 := bf 1
        by_cases hlt : k < n
        · have hlt' : (k : Int) < n := by omega
          obtain ⟨b, off, rfl, hbb, hx, hy⟩ := HO.out k hlt
          replace hx := (hbx.1.cell (p := ⟨b, off + k * 2, none⟩) hbb).trans hx
          replace hy := (hbx.1.cell (p := ⟨b, off + k * 2 + 1, none⟩) hbb).trans hy
          obtain ⟨⟨x, y⟩, hxy⟩ : ∃ t, l.getD k (0, 0) = t := ⟨_, rfl⟩
          rw [hxy] at hx hy
          simp only at hx hy
          have HXY := Lib.hid hxy
          have hbad : Fa.tbad (l.getD k (0, 0)) = (decide (x < 0) || decide (255 < x) || !Fa.inC y) := by rw [hxy]; rfl
          clear hxy
          by_cases c1 : x < 0
          · have HE := Lib.hid (HR.out.symm.trans (Fa.of_bad (by have := HN.out; omega) HI.out (i := k) (by have := HN.out; omega) (hbad.trans (by simp [c1]))))
            clear hbad
            go_wp2
            refine bodyPost_ret (v := .tuple #[.agg #[.slice none 0 0, .int .i64 0], .int .i64 3]) ?_ rfl ⟨_, by rw [HE.out], by rw [HE.out]; exact World.ownsRow_nil _ _ _ _, by first | exact hbx.1 | exact ((hbx.set (Nat.le_refl _) _).set (Nat.le_refl _) _).1⟩
            simp [results, Try.results25, go_sem, b0, b1, hbx.lt0]
          · by_cases c2 : 255 < x
            · have HE := Lib.hid (HR.out.symm.trans (Fa.of_bad (by have := HN.out; omega) HI.out (i := k) (by have := HN.out; omega) (hbad.trans (by simp [c2]))))
              clear hbad
              go_wp2
              refine bodyPost_ret (v := .tuple #[.agg #[.slice none 0 0, .int .i64 0], .int .i64 3]) ?_ rfl ⟨_, by rw [HE.out], by rw [HE.out]; exact World.ownsRow_nil _ _ _ _, by first | exact hbx.1 | exact ((hbx.set (Nat.le_refl _) _).set (Nat.le_refl _) _).1⟩
              simp [results, Try.results25, go_sem, b0, b1, hbx.lt0]
            · cases c4 : Fa.inC y
              · have HE := Lib.hid (HR.out.symm.trans (Fa.of_bad (by have := HN.out; omega) HI.out (i := k) (by have := HN.out; omega) (hbad.trans (by simp [c4]))))
                have HIy := Lib.hid c4
                clear hbad
                go_wp2_with (go_at_call 45; refine (rin_any y false HIy.out _).mono ?_; rintro e w' ⟨rfl, rfl⟩)
                refine bodyPost_ret (v := .tuple #[.agg #[.slice none 0 0, .int .i64 0], .int .i64 3]) ?_ rfl ⟨_, by rw [HE.out], by rw [HE.out]; exact World.ownsRow_nil _ _ _ _, by first | exact hbx.1 | exact ((hbx.set (Nat.le_refl _) _).set (Nat.le_refl _) _).1⟩
                simp [results, Try.results25, go_sem, b0, b1, hbx.lt0]
              · have HIy := Lib.hid c4
                have HOk := Lib.hid (show Fa.tbad (l.getD k (0, 0)) = false from hbad.trans (by simp [c1, c2, c4]))
                clear hbad
                obtain ⟨xn, rfl⟩ := Int.eq_ofNat_of_zero_le (show 0 ≤ x by omega)
                have hxn : xn < 256 := by omega
                have hc := (hB.cell xn).trans (numRow_at 256 _ xn hxn)
                have hcf := hB.frozen xn
                have hstep : ∀ o, Fa.sumTo l o (k + 1) = Fa.sumTo l o k + if ((xn : Nat) : Int) = o then y else 0 := fun o => by
                  show Fa.sumTo l o k + (if (l.getD k (0, 0)).1 = o then (l.getD k (0, 0)).2 else 0) = _
                  rw [HXY.out]
                have hy2 := Fa.inC_iff.1 c4
                have hsm : -(1048576 * (k : Int)) ≤ Fa.sumTo l xn k ∧ Fa.sumTo l xn k ≤ 1048576 * (k : Int) := Fa.sum_lt xn (fun i hi => HK.out.1 i hi)
                have w1 : IntKind.i64.wrap (Fa.sumTo l xn k + y) = Fa.sumTo l xn k + y := IntWalk.i64_in _ (by omega)
                have HF := Lib.hid (show ∀ j : Nat, Fa.sumTo l j (k + 1) = if j = xn then Fa.sumTo l xn k + y else Fa.sumTo l j k from fun j => by
                  rw [hstep j]
                  by_cases e : j = xn
                  · subst e; rw [if_pos rfl, if_pos rfl]
                  · rw [if_neg (by omega), if_neg e, Int.add_zero])
                clear hstep hsm hy2 c4
                have hc' : wr.cell? ⟨w.heap.size + 1, xn, none⟩ = some (.int .i64 (Fa.sumTo l xn k)) := hc
                clear hc
                generalize Fa.sumTo l xn k = s at hc' w1 HF
                have hx256 : (0 : Int) ≤ (xn : Int) ∧ (xn : Int) < 256 := by omega
                go_wp2_with (go_at_call 45; refine (rin_any y true HIy.out _).mono ?_; rintro e w' ⟨rfl, rfl⟩)
                go_region_with (fail)
                all_goals
                  go_wp2
                  go_roundw
                  case rel => exact ⟨k + 1, by omega, by first | rfl | go_num, Lib.hid ⟨fun j hj => by rcases Nat.lt_succ_iff_lt_or_eq.1 hj with h | rfl; exact HK.out.1 j h; exact HOk.out, (HK.out.2.below (below_drewN _ _ 1)).set xn _ HF.out⟩⟩
                  case measure => simp [intOf]; omega
        · have hlt' : ¬ (k : Int) < n := by omega
          obtain ⟨wo, hwo⟩ : ∃ x, x = wr := ⟨_, rfl⟩
          subst hwo
          have HG := Lib.hid (show ∀ i, i < l.length → Fa.tbad (l.getD i (0, 0)) = false from fun i hi => HK.out.1 i (by have := HN.out; omega))
          have HF := Lib.hid (show Ofst w (w.heap.size + 1) (fun o => Fa.sumAt l o) wo from by
            have e : k = l.length := by have := HN.out; omega
            have h := HK.out.2
            rw [e] at h
            exact h)
          have HRes := Lib.hid (HR.out.symm.trans (Fa.of_good (by have := HN.out; omega) HI.out HG.out))
          have HL : Hid (wo.heap.size > w.heap.size + 1) := Lib.hid HF.out.2.1.lt
          have HF1 := Lib.hid (show Fm w (w.heap.size + 1) wo.heap.size (fun o => Fa.sumAt l o) most (.slice none 0 0) (.slice none 0 0) [] (wo.alloc (.cells #[.slice none 0 0, .int .i64 most] 30)) from
            ⟨HF.out.below ((Below.refl _ _).alloc (Nat.le_refl _) _), HL.out, Bk.new _ _ _, World.ownsRow_nil _ _ _ _⟩)
          obtain ⟨iT, hi0, hz0, hz1, hz2⟩ := info_parts Try.infoTm
          have HIT := Lib.hid (And.intro hi0 (And.intro hz0 (And.intro hz1 hz2)))
          clear hi0 hz0 hz1 hz2 HK hbx b0 b1 bf hf0 hf1 hB hg hlt HO HB1 HB
          go_wp2
          go_loopw [9, 10] (fun rg i wr => ∃ (j : Nat) (v : Value), j ≤ 256 ∧ i = .int .i64 j ∧ rg = .bool (Fa.rightTo l j) ∧ wo.heap.size < wr.heap.size ∧ Hid (Fm w (w.heap.size + 1) wo.heap.size (fun o => Fa.sumAt l o) most v v (Fa.normTo l j) wr)) (fun _ i _ => 256 - (intOf i).toNat)
          case atStart => exact ⟨0, .slice none 0 0, by omega, rfl, rfl, by simp, HF1⟩
          case round =>
            obtain ⟨j, v, hj, rfl, rfl, hsz, HM⟩ := hrel
            have hfrB : ∀ o, wr.frozen? ⟨wo.heap.size, o, none⟩ = false := HM.out.2.2.1.frozen
            have hcB0 : wr.cell? ⟨wo.heap.size, 0, none⟩ = some v := HM.out.2.2.1.cell 0
            have hcB1 : wr.cell? ⟨wo.heap.size, 1, none⟩ = some (.int .i64 most) := HM.out.2.2.1.cell 1
            by_cases hj2 : j < 256
            · have hj2' : (j : Int) < 256 := by omega
              have hcs : wr.cell? ⟨w.heap.size + 1, j, none⟩ = some (.int .i64 (Fa.sumAt l j)) := (HM.out.1.2.1.cell j).trans (numRow_at 256 _ j hj2)
              have hs1 : Fa.normTo l (j + 1) = Fa.normTo l j ++ if Fa.sumAt l j = 0 then [] else [((j : Int), Fa.sumAt l j)] := rfl
              have hs2 : Fa.rightTo l (j + 1) = (Fa.rightTo l j && (decide (Fa.sumAt l j = 0) || Fa.inC (Fa.sumAt l j))) := rfl
              have hnl := Fa.norm_len l j
              generalize hsa : Fa.sumAt l j = s at hcs hs1 hs2
              have HSA := Lib.hid hsa
              clear hsa
              by_cases hz : s = 0
              · have HS1 := Lib.hid (hs1.trans (by rw [if_pos hz, List.append_nil]))
                have HS2 := Lib.hid (show Fa.rightTo l (j + 1) = Fa.rightTo l j from hs2.trans (by simp [hz]))
                clear hs1 hs2
                go_wp2
                go_roundw
                case rel => exact ⟨j + 1, v, by omega, by first | rfl | go_num, by rw [HS2.out], by simpa using hsz, Lib.hid (by rw [HS1.out]; first | exact HM.out | exact HM.out.below (below_drewN _ _ _))⟩
                case measure => simp [intOf]; omega
              · have HS1 := Lib.hid (hs1.trans (by rw [if_neg hz]))
                have HS2 := Lib.hid (show Fa.rightTo l (j + 1) = (Fa.rightTo l j && Fa.inC s) from hs2.trans (by simp [hz]))
                clear hs1 hs2
                go_upto_region 18 with fail
                have HQ := Lib.hid (show ∀ i u, (prCells ((j : Int), s))[i]? = some u → (wr.alloc (.cells #[.int .i64 (j : Int), .int .i64 s] 36)).drew.cell? ((⟨wr.heap.size, 0, none⟩ : Addr).add i) = some u from
                  World.news_of_block (w := (wr.alloc (.cells #[.int .i64 (j : Int), .int .i64 s] 36)).drew) (cs := #[.int .i64 (j : Int), .int .i64 s]) (heap_alloc_new wr _))
                have HO8 := Lib.hid (show (wr.alloc (.cells #[.int .i64 (j : Int), .int .i64 s] 36)).drew.ownsRow (wo.heap.size + 1) 36 2 v (Fa.normTo l j).length ((Fa.normTo l j).flatMap prCells) from (HM.out.alloc _).2.2.2.drew)
                have HMd := Lib.hid (show Fm w (w.heap.size + 1) wo.heap.size (fun o => Fa.sumAt l o) most v v (Fa.normTo l j) (wr.alloc (.cells #[.int .i64 (j : Int), .int .i64 s] 36)).drew from (HM.out.alloc _).below (below_drewN _ _ 1))
                have HB8 := Lib.hid (show wo.heap.size + 1 ≤ (wr.alloc (.cells #[.int .i64 (j : Int), .int .i64 s] 36)).drew.heap.size by simp; omega)
                have HC8 := Lib.hid (show ∀ u ∈ prCells ((j : Int), s), u.oneCell' = true by intro u hu; simp [prCells] at hu; rcases hu with rfl | rfl <;> rfl)
                go_region_law (first
                  | (refine step_append_lies _ rfl (.tmp 83) (.tmp 90) 28 rfl (wo.heap.size + 1) 36 iT _ 2 16 Try.underlying28 HIT.out.1 HIT.out.2.1 HIT.out.2.2.1 HIT.out.2.2.2 rfl (by decide) v (Fa.normTo l j).length ((Fa.normTo l j).flatMap prCells) (by simp [Act.eval]) HO8.out ⟨wr.heap.size, 0, none⟩ 1 1 (prCells ((j : Int), s)) (by simp [Act.eval]) rfl HQ.out HC8.out (by omega) (by unfold maxLen; omega) (by omega) HB8.out _ rfl ?_; intro g cap W8 hown8 hgrow8 _ _; have HM8 := Lib.hid (HMd.out.app (x := ((j : Int), s)) hown8 hgrow8); have e8 : W8.cell? ⟨wo.heap.size, 0, none⟩ = some v := HM8.out.2.2.1.cell 0; have f8 : W8.frozen? ⟨wo.heap.size, 0, none⟩ = false := HM8.out.2.2.1.frozen 0; clear hown8 hgrow8))
                all_goals
                  have HM9 := Lib.hid HM8.out.put
                  rw [← HS1.out] at HM9
                  generalize W8.setCell _ _ = W9 at HM9 ⊢
                  have hsz9 : wo.heap.size < W9.heap.size := HM9.out.2.2.1.lt
                  have c9 : W9.cell? ⟨w.heap.size + 1, j, none⟩ = some (.int .i64 s) := ((HM9.out.1.2.1.cell j).trans (numRow_at 256 _ j hj2)).trans (by rw [HSA.out])
                  clear HM8 e8 f8 HB8 HC8 HMd HO8 HQ HM hcs hcB0 hcB1 hfrB
                  cases hr9 : Fa.rightTo l j
                  · have HS3 := Lib.hid (show Fa.rightTo l (j + 1) = false from HS2.out.trans (by simp [hr9]))
                    clear hr9
                    go_wp2
                    go_roundw
                    case rel => exact ⟨j + 1, _, by omega, by first | rfl | go_num, by rw [HS3.out], hsz9, Lib.hid (by first | exact HM9.out | exact HM9.out.below (below_drewN _ _ _))⟩
                    case measure => simp [intOf]; omega
                  · cases hc9 : Fa.inC s
                    · have HS3 := Lib.hid (show Fa.rightTo l (j + 1) = false from HS2.out.trans (by simp [hr9, hc9]))
                      have HI9 := Lib.hid hc9
                      clear hr9 hc9
                      go_wp2_with (go_at_call 45; refine (rin_any s false HI9.out _).mono ?_; rintro e w' ⟨rfl, rfl⟩)
                      go_roundw
                      case rel => exact ⟨j + 1, _, by omega, by first | rfl | go_num, by rw [HS3.out], hsz9, Lib.hid (by first | exact HM9.out | exact HM9.out.below (below_drewN _ _ _))⟩
                      case measure => simp [intOf]; omega
                    · have HS3 := Lib.hid (show Fa.rightTo l (j + 1) = true from HS2.out.trans (by simp [hr9, hc9]))
                      have HI9 := Lib.hid hc9
                      clear hr9 hc9
                      go_wp2_with (go_at_call 45; refine (rin_any s true HI9.out _).mono ?_; rintro e w' ⟨rfl, rfl⟩)
                      go_roundw
                      case rel => exact ⟨j + 1, _, by omega, by first | rfl | go_num, by rw [HS3.out], hsz9, Lib.hid (by first | exact HM9.out | exact HM9.out.below (below_drewN _ _ _))⟩
                      case measure => simp [intOf]; omega
            · obtain rfl : j = 256 := by omega
              have hj2' : ¬ ((256 : Nat) : Int) < 256 := by omega
              have hP : PrsIn wr v (Fa.normTo l 256) := RowIn.own HM.out.2.2.2
              obtain ⟨⟨hbx, b0, b1, bf⟩, hB, hg⟩ := HM.out.1
              have hf0 := bf 0
              have hf1 := bf 1
              have hnl := Fa.norm_len l 256
              obtain ⟨A2, c2, hv2, _⟩ := hP.opened
              have HP := Lib.hid hP
              have hc0 : wr.cell? ⟨wo.heap.size, 0, none⟩ = some (.slice A2 (Fa.normTo l 256).length c2) := by rw [← hv2]; exact hcB0
              clear hP hcB0 hB
              subst hv2
              by_cases h64 : 64 < (Fa.normTo l 256).length
              · have h64' : (64 : Int) < (Fa.normTo l 256).length := by omega
                have HE := Lib.hid (HRes.out.trans (if_pos h64))
                go_wp2
                refine bodyPost_ret (v := .tuple #[.agg #[.slice none 0 0, .int .i64 0], .int .i64 4]) ?_ rfl ⟨_, by rw [HE.out], by rw [HE.out]; exact World.ownsRow_nil _ _ _ _, by first | exact hbx.1 | exact ((hbx.set (Nat.le_refl _) _).set (Nat.le_refl _) _).1⟩
                simp [results, Try.results25, go_sem, b0, b1, hbx.lt0]
              · have h64' : ¬ (64 : Int) < (Fa.normTo l 256).length := by omega
                cases hr2 : Fa.rightTo l 256
                · have HE := Lib.hid (HRes.out.trans (by rw [if_neg h64, if_pos hr2]))
                  clear hr2
                  go_wp2
                  refine bodyPost_ret (v := .tuple #[.agg #[.slice none 0 0, .int .i64 0], .int .i64 3]) ?_ rfl ⟨_, by rw [HE.out], by rw [HE.out]; exact World.ownsRow_nil _ _ _ _, by first | exact hbx.1 | exact ((hbx.set (Nat.le_refl _) _).set (Nat.le_refl _) _).1⟩
                  simp [results, Try.results25, go_sem, b0, b1, hbx.lt0]
                · have HE := Lib.hid (HRes.out.trans (by rw [if_neg h64, if_neg (by simp [hr2])]))
                  clear hr2
                  go_wp2
                  refine bodyPost_ret (v := .tuple #[.agg #[.slice A2 (Fa.normTo l 256).length c2, .int .i64 most], .int .i64 0]) ?_ rfl ⟨_, by rw [HE.out], by rw [HE.out]; exact own_two HM.out.2.2.2 (by have := HL.out; omega) (by have := HL.out; omega) _ _, ((hbx.set (Nat.le_refl _) _).set (Nat.le_refl _) _).1⟩
                  simp [results, Try.results25, go_sem, b0, b1, hbx.lt0]
end Go.Proofs.Ytpinncjnfbebkaa
