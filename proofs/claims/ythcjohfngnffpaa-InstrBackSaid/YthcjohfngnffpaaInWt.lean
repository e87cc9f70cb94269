/- Package instr's write and Encode. No condition. -/
import Derived.Test.YthcjohfngnffpaaInEn
namespace Go.Proofs.Ythcjohfngnffpaa
open Go.RowKit
set_option linter.unusedVariables false
set_option linter.unusedSimpArgs false
attribute [local go_sem] y_undef
theorem lit_one (u : World) (b : Value) (t : TypeId) (g : Nat) (hg : g = u.heap.size) : RowIn 1 (u.alloc (.cells #[b] t)) (.slice (some ⟨g, 0, none⟩) 1 1) 1 [b] := by
  subst hg
  refine ⟨_, 1, rfl, rfl, .inr ⟨_, 0, rfl, by simp, fun j x hj => ?_⟩⟩
  have hb := heap_alloc_new u (.cells #[b] t)
  rw [cell_of_row _ _ _ _ _ _ hb, Nat.zero_add]
  simpa using hj
theorem below_to {B : Nat} {a b c : World} (h : Below B a b) (k : Below b.heap.size b c) (hB : B ≤ a.heap.size) : Below B a c := h.trans (k.mono (Nat.le_trans hB h.size))
/-- write's loop. -/
structure WtS (base : Nat) (w : World) (g : Nat) (ns : List Int) (m : Nat) (xs : List Value) (k : Nat) (y : Value) (u : World) : Prop where
  bel : Below base w u
  bas : base ≤ w.heap.size
  row : u.ownsRow base 5 1 y (m + k) (xs ++ (ns.take k).map fun z => .int .u8 (In.w8 z))
  bk : Bk u g 3 ((ns.map (Value.int .i64)).toArray)
section
variable {base g m k : Nat} {w u u' : World} {ns : List Int} {xs : List Value} {y y' : Value}
theorem WtS.size (h : WtS base w g ns m xs k y u) : base ≤ u.heap.size := Nat.le_trans h.bas h.bel.size
theorem WtS.below (h : WtS base w g ns m xs k y u) (hb : Below u.heap.size u u') : WtS base w g ns m xs k y u' := ⟨below_to h.bel hb h.bas, h.bas, own_below h.row hb, h.bk.below hb⟩
theorem WtS.push (h : WtS base w g ns m xs k y u) (hk : k < ns.length) (hown : u'.ownsRow base 5 1 y' (m + k + 1) ((xs ++ (ns.take k).map fun z => .int .u8 (In.w8 z)) ++ [.int .u8 (In.w8 (ns.getD k 0))])) (hg : u.grownBy u' y.ownBlock) : WtS base w g ns m xs (k + 1) y' u' :=
  ⟨h.bel.grown hg h.size (fun b hb => (h.row.lt b hb).1), h.bas, by
    rw [List.take_add_one, getD_some' 0 hk, List.map_append, ← List.append_assoc]
    exact hown, bk_grown_t h.bk h.row (by decide) hg⟩
end
set_option maxRecDepth 100000 in
set_option maxHeartbeats 40000000 in
theorem write_any (base g m n : Nat) (ns : List Int) (xs : List Value) (y : Value) (w : World) (hw : WtS base w g ns m xs 0 y w) (hn : ns.length = n) (h8 : n ≤ 100) (hm : m ≤ 1000000) :
    Calls Try.prog 25 #[y, .slice (some ⟨g, 0, none⟩) n n] w fun e w' => ∃ y', e = .returned y' ∧ WtS base w g ns m xs n y' w' := by
  obtain ⟨iB, hi0, hz0, hz1, hz2⟩ := info_parts minfo_u8
  have HIB := Lib.hid (And.intro hi0 (And.intro hz0 (And.intro hz1 hz2)))
  clear hi0 hz0 hz1 hz2
  have HI := Lib.hid hw
  have HN := Lib.hid hn
  clear hn hw
  go_enter Try.func25, Try.ntmps25
  go_wp2_with fail
  go_loopw [0, 6, 9] (fun z _ i wr => ∃ (k : Nat) (x : Value), k ≤ n ∧ i = .int .i64 (k : Nat) ∧ x = z ∧ Hid (WtS base w g ns m xs k x wr)) (fun _ _ i _ => n - (intOf i).toNat)
  case atStart => exact ⟨0, _, by omega, rfl, rfl, HI⟩
  case round =>
    obtain ⟨k, x, hk, rfl, rfl, HS⟩ := hrel
    clear HI
    by_cases hlt : (k : Int) < n
    · have hkn : k < n := by omega
      have hx : wr.cell? ⟨g, k, none⟩ = some (.int .i64 (ns.getD k 0)) := by
        rw [HS.out.bk.cell]
        rw [List.getElem?_toArray, List.getElem?_map, getD_some' 0 (show k < ns.length by rw [HN.out]; exact hkn)]
        rfl
      obtain ⟨q, hq⟩ : ∃ q, ns.getD k 0 = q := ⟨_, rfl⟩
      rw [hq] at hx
      have HQ := Lib.hid hq
      clear hq
      have hsz := HS.out.size
      obtain ⟨L, hL⟩ : ∃ L, (xs ++ (ns.take k).map fun z => Value.int .u8 (In.w8 z)) = L := ⟨_, rfl⟩
      have HL := Lib.hid hL
      have HRow := Lib.hid (show wr.ownsRow base 5 1 x (m + k) L from by rw [← hL]; exact HS.out.row)
      clear hL
      go_wp2_with (at_builtin; refine wpList_append_row rfl _ _ 22 rfl base 5 iB _ 1 1 Try.underlying22 HIB.out.1 HIB.out.2.1 HIB.out.2.2.1 HIB.out.2.2.2 rfl (by decide) _ _ _ rfl (own_below HRow.out (bla (Below.refl _ _) _)) _ _ _ rfl (lit_one wr _ _ _ rfl) ?qc3 ?qc4 ?qc5 ?qc6 ?_)
      case qc3 => intro u hu; simp only [List.mem_cons, List.not_mem_nil, or_false] at hu; subst hu; rfl
      case qc4 => unfold maxLen; omega
      case qc5 => omega
      case qc6 => rw [size_alloc]; omega
      intro v2 w3 hown hg hv2
      have HN2 := Lib.hid ((HS.out.below (bla (Below.refl _ _) _)).push (by rw [HN.out]; exact hkn) (by rw [HQ.out, HL.out]; exact hown) hg)
      clear hown hg hv2 HS hx
      go_wp2
      exact ⟨⟨k + 1, _, by omega, by first | rfl | go_num, rfl, HN2⟩, by simp [intOf]; omega⟩
    · have hje : k = n := by omega
      subst hje
      go_wp2
      go_ret
      exact ⟨_, rfl, HS.out⟩
theorem or16' : ∀ x y : Fin 8, bits BinOp.or IntKind.i64 (wrap64 ((x.1 : Int) * 16)) (y.1 : Int) = 16 * (x.1 : Int) + (y.1 : Int) := by decide +kernel
theorem or16 {a b : Int} (a0 : 0 ≤ a) (a1 : a ≤ 7) (b0 : 0 ≤ b) (b1 : b ≤ 7) : bits BinOp.or IntKind.i64 (wrap64 (a * 16)) b = 16 * a + b := by
  obtain ⟨n, hn, rfl⟩ := in_reg a0 a1
  obtain ⟨m, hm, rfl⟩ := in_reg b0 b1
  exact or16' ⟨n, hn⟩ ⟨m, hm⟩
theorem EnS.wt {w u : World} {l : List In.I} {j : Nat} {z : Value} (h : EnS w l j z u) (ns : List Int) : WtS w.heap.size (u.alloc (.cells ((ns.map (Value.int .i64)).toArray) 3)) u.heap.size ns (8 * j) (((l.take j).flatMap In.en).map (Value.int .u8)) 0 z (u.alloc (.cells ((ns.map (Value.int .i64)).toArray) 3)) :=
  ⟨Below.refl _ _, by have := h.bel.size; rw [size_alloc]; omega, by simpa using own_below h.row (bla (Below.refl _ _) _), Bk.new _ _ _⟩
theorem EnS.wrote {w u u2 : World} {l : List In.I} {j : Nat} {z z2 : Value} {ik ia ib ic io im : Int} (h : EnS w l j z u) (hj : j < l.length) (hi : l.getD j In.i0 = ⟨ik, ia, ib, ic, io, im⟩) (hc : In.chk ⟨ik, ia, ib, ic, io, im⟩ = 0)
    (hw : WtS w.heap.size (u.alloc (.cells ((([ik, bits .or .i64 (wrap64 (ia * 16)) ib, ic, io, im / 16777216, im / 65536, im / 256, im] : List Int).map (Value.int .i64)).toArray) 3)) u.heap.size [ik, bits .or .i64 (wrap64 (ia * 16)) ib, ic, io, im / 16777216, im / 65536, im / 256, im] (8 * j) (((l.take j).flatMap In.en).map (Value.int .u8)) 8 z2 u2) : EnS w l (j + 1) z2 u2 := by
  have hV := In.V.of hc
  have ho := or16 hV.a0 hV.a1 hV.b0 hV.b1
  simp only at ho
  refine ⟨(bla h.bel _).trans hw.bel, ?_, fun i hi' => ?_⟩
  · have hr := hw.row
    rw [ho] at hr
    rw [In.take_flat hj, hi, List.map_append]
    exact hr
  · rcases Nat.lt_or_ge i j with h1 | h1
    · exact h.ok i h1
    · rw [show i = j by omega, hi]; exact hc
set_option maxRecDepth 100000 in
set_option maxHeartbeats 40000000 in
theorem ienc_any (l : List In.I) (v : Value) (w : World) (hv : InsL w v l) (hm : l.length ≤ maxLen) : Calls Try.prog 11 #[v] w (EnPost w l) := by
  obtain ⟨A, c, rfl, ho⟩ := hv.opened
  unfold maxLen at hm
  obtain ⟨n, hn⟩ : ∃ n, l.length = n := ⟨_, rfl⟩
  rw [hn] at hm ho ⊢
  have HN := Lib.hid hn
  clear hn
  have HO := Lib.hid ho
  clear ho hv
  by_cases h1 : 1024 < n
  · have h1' : (1024 : Int) < n := by omega
    have he : In.eno l = 4 := by unfold In.eno; rw [HN.out, if_pos h1]
    have HE := Lib.hid he
    clear he
    go_enter Try.func11, Try.ntmps11
    go_wp2
    refine bodyPost_ret (v := .tuple #[.slice none 0 0, .int .i64 (In.eno l)]) ?_ rfl (EnPost.bad (by rw [HE.out]; omega) (Below.refl _ _))
    simp [results, Try.results11, go_sem, HE.out]
  · have h1' : ¬ (1024 : Int) < n := by omega
    have hmk : ∀ u : World, (Instr.makeSlice 22 (.int .i64 0) (.int .i64 (8 * (n : Int)))).run Try.prog u = .ok (.slice (some ⟨u.heap.size, 0, none⟩) 0 (8 * n)) (u.alloc (.cells (madeCells #[Value.int .u8 0] (8 * n)) 5)) := fun u => by
      obtain ⟨iB, hi0, hz0, hz1, hz2⟩ := info_parts minfo_u8
      have := mk_none 22 5 iB _ 1 1 Try.underlying22 hi0 hz0 hz1 hz2 (8 * n) (by omega) (by omega) u
      rw [show ((8 * n : Nat) : Int) = 8 * (n : Int) from by omega] at this
      rw [Nat.mul_one] at this
      exact this
    have HI : Hid (EnS w l 0 (.slice (some ⟨w.heap.size, 0, none⟩) 0 (8 * n)) (w.alloc (.cells (madeCells #[Value.int .u8 0] (8 * n)) 5))) := Lib.hid ⟨bla (Below.refl _ _) _, by
      have h := World.ownsRow_made (base := w.heap.size) (e := 5) (size := 1) w (madeCells #[Value.int .u8 0] (8 * n)) (8 * n) (Nat.le_refl _) (by unfold maxLen; omega) (by simp [madeCells])
      simpa using h, fun j hj => absurd hj (Nat.not_lt_zero _)⟩
    obtain ⟨iB, hi0, hz0, hz1, hz2⟩ := info_parts minfo_u8
    have HIB := Lib.hid (And.intro hi0 (And.intro hz0 (And.intro hz1 hz2)))
    clear hi0 hz0 hz1 hz2
    go_enter Try.func11, Try.ntmps11
    go_wp2_with fail
    go_loopw [4, 6, 7, 17] (fun y _ _ k wr => ∃ (j : Nat) (z : Value), j ≤ n ∧ k = .int .i64 (j : Nat) ∧ z = y ∧ Hid (EnS w l j z wr)) (fun _ _ _ k _ => n - (intOf k).toNat)
    case atStart => exact ⟨0, _, by omega, rfl, rfl, HI⟩
    case round =>
      obtain ⟨j, z, hj, rfl, rfl, HS⟩ := hrel
      clear HI
      by_cases hlt : (j : Int) < n
      · have hjn : j < n := by omega
        obtain ⟨b, off, rfl, hb0, x0, x1, x2, x3, x4, x5⟩ := HO.out j hjn
        have hbs := HS.out.bel
        obtain ⟨i, hi⟩ : ∃ i, l.getD j In.i0 = i := ⟨_, rfl⟩
        rw [hi] at x0 x1 x2 x3 x4 x5
        have y0 := (hbs.cell (p := ⟨b, off + j * 6, none⟩) hb0).trans x0
        have y1 := (hbs.cell (p := ⟨b, off + j * 6 + 1, none⟩) hb0).trans x1
        have y2 := (hbs.cell (p := ⟨b, off + j * 6 + 2, none⟩) hb0).trans x2
        have y3 := (hbs.cell (p := ⟨b, off + j * 6 + 3, none⟩) hb0).trans x3
        have y4 := (hbs.cell (p := ⟨b, off + j * 6 + 4, none⟩) hb0).trans x4
        have y5 := (hbs.cell (p := ⟨b, off + j * 6 + 5, none⟩) hb0).trans x5
        have hbs0 := hbs.size
        have HX := Lib.hid hi
        clear hi x0 x1 x2 x3 x4 x5 hbs
        obtain ⟨ik, ia, ib, ic, io, im⟩ := i
        simp only at y0 y1 y2 y3 y4 y5
        obtain ⟨q, hq⟩ : ∃ q, In.chk ⟨ik, ia, ib, ic, io, im⟩ = q := ⟨_, rfl⟩
        have HQ := Lib.hid hq
        have HK := Lib.hid (icheck_any ⟨ik, ia, ib, ic, io, im⟩ q hq)
        clear hq
        unfold iAgg at HK
        simp only at HK
        have HB := Lib.hid (And.intro (Bk.new wr 26 #[.int .i64 ik, .int .i64 ia, .int .i64 ib, .int .i64 ic, .int .i64 io, .int .i64 im]) (HS.out.below (bla (Below.refl _ _) (.cells #[.int .i64 ik, .int .i64 ia, .int .i64 ib, .int .i64 ic, .int .i64 io, .int .i64 im] 26))))
        by_cases h0 : q = 0
        · go_wp2_with (first | (go_at_call 22; refine (HK.out _).mono ?_; rintro e u ⟨rfl, hb⟩; have HC := Lib.hid (And.intro (HB.out.1.below hb) (HB.out.2.below hb)); clear hb; have c0 := HC.out.1.cell 0; have c1 := HC.out.1.cell 1; have c2 := HC.out.1.cell 2; have c3 := HC.out.1.cell 3; have c4 := HC.out.1.cell 4; have c5 := HC.out.1.cell 5; simp at c0 c1 c2 c3 c4 c5) | (go_at_call 25; refine (write_any w.heap.size u.heap.size (8 * j) 8 [ik, bits .or .i64 (wrap64 (ia * 16)) ib, ic, io, im / 16777216, im / 65536, im / 256, im] _ z _ (HC.out.2.wt _) rfl (by omega) (by omega)).mono ?_; rintro e u2 ⟨z2, rfl, hw⟩; have HN2 := Lib.hid (EnS.wrote HC.out.2 (by rw [HN.out]; exact hjn) HX.out (HQ.out.trans h0) hw); clear hw))
          clear HC HB c0 c1 c2 c3 c4 c5 y0 y1 y2 y3 y4 y5
          exact ⟨⟨j + 1, _, by omega, by first | rfl | go_num, rfl, HN2⟩, by simp [intOf]; omega⟩
        · have HE := Lib.hid (show In.eno l = q from by rw [HS.out.bad (by rw [HN.out]; exact h1) (by rw [HN.out]; exact hjn) (by rw [HX.out, HQ.out]; exact h0), HX.out, HQ.out])
          go_wp2_with (go_at_call 22; refine (HK.out _).mono ?_; rintro e u ⟨rfl, hb⟩; have HC := Lib.hid (HB.out.2.below hb); clear hb)
          refine bodyPost_ret (v := .tuple #[.slice none 0 0, .int .i64 (In.eno l)]) ?_ rfl (EnPost.bad (by rw [HE.out]; exact h0) HC.out.bel)
          simp [results, Try.results11, go_sem, HE.out]
      · have hje : j = n := by omega
        subst hje
        have HF := Lib.hid (EnS.fin (l := l) (w := w) (u := wr) (y := z) (by rw [HN.out]; exact HS.out) (by rw [HN.out]; exact h1))
        clear HS
        go_wp2
        refine bodyPost_ret (v := .tuple #[z, .int .i64 (In.eno l)]) ?_ rfl HF.out.2
        simp [results, Try.results11, go_sem, HF.out.1]
end Go.Proofs.Ythcjohfngnffpaa
