/- The laws' facts: what some makes. No condition. -/
import Derived.Test.YtpinncjnfbebkaaFaOf
import Derived.Test.YtpinncjnfbebkaaFaAlg
import Derived.Test.YtpinncjnfbebkaaPlDeck
import Derived.Deep.RegionLaw
namespace Go.Proofs.Ytpinncjnfbebkaa
open Go.RowKit
set_option linter.unusedVariables false
set_option linter.unusedSimpArgs false
attribute [local go_sem] y_undef
/-- A fact in the making: the deck, the result's box, the row of terms. -/
def Sm (w : World) (D : Nat) (v : Value) (zs : List Int) (x : Value) (q : Fa.Tms) (u : World) : Prop :=
  Deck u v zs D ∧ D < w.heap.size ∧ w.grownBy u (some D) ∧ Bk u w.heap.size 30 #[.slice none 0 0, .int .i64 0] ∧ u.ownsRow (w.heap.size + 1) 36 2 x q.length (q.flatMap prCells)
section
variable {w u u' : World} {D : Nat} {v x : Value} {zs : List Int} {q : Fa.Tms}
theorem own_below {base : Nat} {e : TypeId} {size n : Nat} {v : Value} {xs : List Value} (h : u.ownsRow base e size v n xs) (hb : Below u.heap.size u u') : u'.ownsRow base e size v n xs :=
  World.ownsRow.kept h (row := none) ⟨hb.os, hb.tape, hb.output, hb.size, fun k hk _ => hb.block k hk⟩ (by cases hv : v.ownBlock <;> simp)
theorem own_grown {base D : Nat} {e : TypeId} {size n : Nat} {v : Value} {xs : List Value} (h : u.ownsRow base e size v n xs) (hg : u.grownBy u' (some D)) (hD : D < base) : u'.ownsRow base e size v n xs :=
  World.ownsRow.kept h hg (by
    cases hv : v.ownBlock with
    | none => exact .inl rfl
    | some k => exact .inr (fun e => by injection e with e; have := (World.ownsRow.lt h k hv).1; omega))
theorem Sm.below (h : Sm w D v zs x q u) (hb : Below u.heap.size u u') : Sm w D v zs x q u' :=
  ⟨h.1.below hb, h.2.1, grown_trans h.2.2.1 (grown_below hb), h.2.2.2.1.below hb, own_below h.2.2.2.2 hb⟩
theorem Sm.alloc (h : Sm w D v zs x q u) (o : Obj) : Sm w D v zs x q (u.alloc o) := h.below ((Below.refl _ _).alloc (Nat.le_refl _) o)
theorem Sm.next (h : Sm w D v zs x q u) (hd : Deck u' v zs D) (hg : u.grownBy u' (some D)) : Sm w D v zs x q u' :=
  ⟨hd, h.2.1, grown_trans h.2.2.1 hg, bk_grown h.2.2.2.1 hg (fun e => by injection e with e; have := h.2.1; omega), own_grown h.2.2.2.2 hg (by have := h.2.1; omega)⟩
theorem Sm.app (h : Sm w D v zs x q u) {x' : Value} {t : Int × Int} (hown : u'.ownsRow (w.heap.size + 1) 36 2 x' (q.length + 1) (q.flatMap prCells ++ prCells t)) (hg : u.grownBy u' x.ownBlock) : Sm w D v zs x' (q ++ [t]) u' := by
  obtain ⟨hd, hD, hw, hB, hO⟩ := h
  have hr : ∀ k, x.ownBlock = some k → w.heap.size + 1 ≤ k := fun k hk => (hO.lt k hk).1
  refine ⟨hd.grown hg (fun k hk => by have := hr k hk; omega), hD, ⟨hg.os.trans hw.os, hg.tape.trans hw.tape, hg.output.trans hw.output, Nat.le_trans hw.size hg.size, fun b hb hne => ?_⟩, bk_grown hB hg (fun e => by have := hr _ e.symm; omega), ?_⟩
  · exact (hg.block b (Nat.lt_of_lt_of_le hb hw.size) (fun e => by have := hr _ e.symm; omega)).trans (hw.block b hb hne)
  · rw [List.flatMap_append]; simpa using hown
end
theorem grown_two (u : World) (g i j : Nat) (a b : Value) (o : Obj) : u.grownBy (((u.setCell ⟨g, i, none⟩ a).setCell ⟨g, j, none⟩ b).alloc o) (some g) :=
  ⟨rfl, rfl, rfl, by simp, fun k hk hne => by
    have e : k ≠ g := by rintro rfl; exact hne rfl
    rw [Below.heap_alloc _ o k (by simpa using hk), Below.heap_setCell _ _ _ _ e, Below.heap_setCell _ _ _ _ e]⟩
/-- What some answers. -/
def SomePost (n D : Nat) (v : Value) (zs : List Int) (w : World) (e : Ending) (u : World) : Prop :=
  ∃ x l m, e = .returned (.agg #[x, .int .i64 m]) ∧ Fa.Fk n l m ∧ u.ownsRow w.heap.size 36 2 x l.length (l.flatMap prCells) ∧ Deck u v zs D ∧ w.grownBy u (some D)
set_option maxRecDepth 100000 in
set_option maxHeartbeats 8000000 in
theorem some_any (D n : Nat) (v : Value) (zs : List Int) (w : World) (hd : Deck w v zs D) (hn : n ≤ 9) :
    Calls Try.prog 12 #[.pointer (some ⟨D, 0, none⟩), .int .i64 n] w (SomePost n D v zs w) := by
  have H0 := Lib.hid (show Sm w D v zs (.slice none 0 0) [] (w.alloc (.cells #[.slice none 0 0, .int .i64 0] 30)) from
    ⟨hd.below ((Below.refl _ _).alloc (Nat.le_refl _) _), hd.lt, grown_below ((Below.refl _ _).alloc (Nat.le_refl _) _), Bk.new _ _ _, World.ownsRow_nil _ _ _ _⟩)
  clear hd
  obtain ⟨iT, hi0, hz0, hz1, hz2⟩ := info_parts Try.infoTm
  have HIT := Lib.hid (And.intro hi0 (And.intro hz0 (And.intro hz1 hz2)))
  clear hi0 hz0 hz1 hz2
  go_enter Try.func12, Try.ntmps12
  go_wp2
  go_loopw [5, 6] (fun x i wr => ∃ (k : Nat) (q : Fa.Tms), k ≤ n ∧ i = .int .i64 k ∧ Hid ((q.length ≤ k ∧ ∀ t ∈ q, (0 ≤ t.1 ∧ t.1 < (n : Int)) ∧ (-4 ≤ t.2 ∧ t.2 ≤ 4)) ∧ Sm w D v zs x q wr)) (fun _ i _ => n - (intOf i).toNat)
  case atStart => exact ⟨0, [], Nat.zero_le _, rfl, Lib.hid ⟨⟨by simp, fun t ht => by simp at ht⟩, H0.out⟩⟩
  case round =>
    clear H0
    obtain ⟨k, q, hk, rfl, HK⟩ := hrel
    by_cases hlt : k < n
    · have hlt' : (k : Int) < n := by omega
      go_wp2_with fail
      refine (next_any 2 D v zs _ HK.out.2.1 (by omega)).mono ?_
      rintro e w1 ⟨r, rfl, hr0, hr1, hd1, hg1⟩
      have HS := Lib.hid (HK.out.2.next hd1 hg1)
      have HQ := Lib.hid HK.out.1
      clear hd1 hg1 HK
      have hr : r = 0 ∨ r = 1 := by omega
      clear hr0 hr1
      rcases hr with rfl | rfl
      · go_wp2
        go_roundw
        case rel => exact ⟨k + 1, q, by omega, by first | rfl | go_num, Lib.hid ⟨⟨by have := HQ.out.1; omega, HQ.out.2⟩, HS.out⟩⟩
        case measure => simp [intOf]; omega
      · go_upto_region 6 with fail
        go_wp2_with fail
        refine (next_any 9 D v zs _ HS.out.1 (by omega)).mono ?_
        rintro e w2 ⟨r, rfl, hr0, hr1, hd2, hg2⟩
        have HS2 := Lib.hid (HS.out.next hd2 hg2)
        clear hd2 hg2 HS
        have hr : 0 ≤ r ∧ r ≤ 8 := by omega
        clear hr0 hr1
        have hql := HQ.out.1
        have w4 : IntKind.i64.wrap (r - 4) = r - 4 := IntWalk.i64_in _ (by omega)
        have HN := Lib.hid (show ∀ i u, (prCells ((k : Int), r - 4))[i]? = some u → (w2.alloc (.cells #[.int .i64 k, .int .i64 (r - 4)] 36)).cell? ((⟨w2.heap.size, 0, none⟩ : Addr).add i) = some u from
          World.news_of_block (cs := #[.int .i64 k, .int .i64 (r - 4)]) (heap_alloc_new w2 _))
        have HB := Lib.hid (show w.heap.size + 1 ≤ (w2.alloc (.cells #[.int .i64 k, .int .i64 (r - 4)] 36)).heap.size by have := HS2.out.2.2.2.1.lt; simp; omega)
        go_wp2_with (at_builtin; refine wpList_append_own_at _ rfl (.tmp 17) (.tmp 23) 28 rfl (w.heap.size + 1) 36 iT _ 2 16 Try.underlying28 HIT.out.1 HIT.out.2.1 HIT.out.2.2.1 HIT.out.2.2.2 rfl (by decide) u5 q.length (q.flatMap prCells) rfl (HS2.out.alloc _).2.2.2.2 ⟨w2.heap.size, 0, none⟩ 1 1 (prCells ((k : Int), r - 4)) rfl rfl HN.out (by intro u hu; simp [prCells] at hu; rcases hu with rfl | rfl <;> rfl) (by unfold maxLen; omega) (by omega) HB.out ?_; intro v' w' hown hgr _ _; have HS3 := Lib.hid ((HS2.out.alloc _).app (t := ((k : Int), r - 4)) hown hgr); clear hown hgr)
        go_roundw
        case rel => exact ⟨k + 1, q ++ [((k : Int), r - 4)], by omega, by first | rfl | go_num, Lib.hid ⟨⟨by simp; omega, fun t ht => by
          rcases List.mem_append.1 ht with h | h
          · exact HQ.out.2 t h
          · obtain rfl : t = ((k : Int), r - 4) := by simpa using h
            exact ⟨⟨by dsimp only; omega, by dsimp only; omega⟩, by dsimp only; omega, by dsimp only; omega⟩⟩, HS3.out⟩⟩
        case measure => simp [intOf]; omega
    · have hkn : k = n := by omega
      have hlt' : ¬ (k : Int) < n := by omega
      go_wp2_with fail
      refine (next_any 30 D v zs _ HK.out.2.1 (by omega)).mono ?_
      rintro e w1 ⟨r, rfl, hr0, hr1, hd1, hg1⟩
      have HS := Lib.hid (HK.out.2.next hd1 hg1)
      have hr : 0 ≤ r ∧ r ≤ 29 := by omega
      obtain ⟨hof, hfk⟩ := Fa.some_fk (l := q) (m := r - 5) hn (by have := HK.out.1.1; omega) HK.out.1.2 (by omega)
      have hP : PrsIn w1 u5 q := RowIn.own HS.out.2.2.2.2
      have HO := Lib.hid (rof_any q (r - 5) u5 _ w1 hP (by have := HK.out.1.1; unfold maxLen; omega) hof)
      have HF := Lib.hid hfk
      have w5 : IntKind.i64.wrap (r - 5) = r - 5 := IntWalk.i64_in _ (by omega)
      clear hd1 hg1 HK hr0 hr1 hof hfk hP
      generalize Fa.normTo q 256 = l at *
      go_wp2_with fail
      refine HO.out.mono ?_
      rintro e w2 ⟨x, rfl, hown, hb2⟩
      have HS2 := Lib.hid (HS.out.below hb2)
      have hx := RowIn.own hown
      obtain ⟨A, c, rfl, _⟩ := hx
      have HO2 := Lib.hid hown
      clear hown hb2 HO
      have c0 : ∀ o, (w2.alloc o).cell? ⟨w.heap.size, 0, none⟩ = some (.slice none 0 0) := fun o => (HS2.out.alloc o).2.2.2.1.cell 0
      have c1 : ∀ o, (w2.alloc o).cell? ⟨w.heap.size, 1, none⟩ = some (.int .i64 0) := fun o => (HS2.out.alloc o).2.2.2.1.cell 1
      have d0 : ∀ o, (w2.alloc o).frozen? ⟨w.heap.size, 0, none⟩ = false := fun o => (HS2.out.alloc o).2.2.2.1.frozen 0
      have d1 : ∀ o, (w2.alloc o).frozen? ⟨w.heap.size, 1, none⟩ = false := fun o => (HS2.out.alloc o).2.2.2.1.frozen 1
      have hlw : w.heap.size < w2.heap.size := HS2.out.2.2.2.1.lt
      have hset : ∀ u o, Bk ((w2.setCell ⟨w.heap.size, 0, none⟩ u).alloc o) w.heap.size 30 #[u, .int .i64 0] := fun u o => by
        have h := HS2.out.2.2.2.1.set 0 u
        exact h.below ((Below.refl _ _).alloc (Nat.le_refl _) o)
      have c2 : ∀ u o, ((w2.setCell ⟨w.heap.size, 0, none⟩ u).alloc o).cell? ⟨w.heap.size, 1, none⟩ = some (.int .i64 0) := fun u o => (hset u o).cell 1
      have d2 : ∀ u o, ((w2.setCell ⟨w.heap.size, 0, none⟩ u).alloc o).frozen? ⟨w.heap.size, 1, none⟩ = false := fun u o => (hset u o).frozen 1
      have b0 : w2.cell? ⟨w.heap.size, 0, none⟩ = some (.slice none 0 0) := HS2.out.2.2.2.1.cell 0
      have b1 : w2.cell? ⟨w.heap.size, 1, none⟩ = some (.int .i64 0) := HS2.out.2.2.2.1.cell 1
      go_wp2
      have hgt := grown_two w2 w.heap.size 0 1 (.slice A l.length c) (.int .i64 (r - 5)) (.cells #[.slice A l.length c, .int .i64 (r - 5)] 30)
      refine bodyPost_ret (v := .agg #[.slice A l.length c, .int .i64 (r - 5)]) ?_ rfl ⟨_, l, r - 5, rfl, HF.out, ?_, HS2.out.1.grown hgt (fun k hk => by injection hk with hk; have := HS2.out.2.1; omega), ?_⟩
      · simp [results, Try.results12, go_sem, b0, b1, hlw]
      · exact (own_two HO2.out HS.out.2.2.2.1.lt (by have := HS.out.2.2.1.size; omega) _ _).alloc _
      · have hw := HS2.out.2.2.1
        exact ⟨hgt.os.trans hw.os, hgt.tape.trans hw.tape, hgt.output.trans hw.output, Nat.le_trans hw.size hgt.size, fun b hb hne => (hgt.block b (Nat.lt_of_lt_of_le hb hw.size) (fun e => by injection e with e; omega)).trans (hw.block b hb hne)⟩
end Go.Proofs.Ytpinncjnfbebkaa
