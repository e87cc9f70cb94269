/- The specification's Reads. No condition. -/
import Derived.Test.YthcjohfngnffpaaInOwn
import Derived.Test.YthcjohfngnffpaaInWr
import Derived.Deep.RegionWith
import Derived.LoopTactic
import Derived.Deep.DeepCutAuto
import Derived.Deep.CutBlock
namespace Go.Proofs.Ythcjohfngnffpaa
open Go.RowKit
set_option linter.unusedVariables false
set_option linter.unusedSimpArgs false
attribute [local go_sem] y_undef
namespace In
/-- What an instruction names. -/
def pk (i : I) : List Int := if i.k = 2 ∨ i.k = 4 then [i.b] else if i.k = 3 then [i.b, i.c] else if i.k = 5 then [i.a, i.b] else if i.k = 7 then [i.a] else []
theorem rl_nil : rl [] = [] := rfl
theorem rds_pk (i : I) : rds i = if chk i = 0 then rl (pk i) else [] := by
  unfold rds pk
  by_cases h : chk i = 0
  · rw [if_neg (fun x => x h), if_pos h]
    split <;> try rfl
    split <;> try rfl
    split <;> try rfl
    split <;> rfl
  · rw [if_pos h, if_neg h]
def rlTo (p : List Int) (j : Nat) : List Int := ((List.range (j - 1)).map fun (x : Nat) => (x : Int) + 1).filter fun r => p.contains r
theorem rlTo_all (p : List Int) : rlTo p 8 = rl p := rfl
theorem rlTo_one (p : List Int) : rlTo p 1 = [] := rfl
theorem rlTo_yes {p : List Int} {j : Nat} (hj : 0 < j) (h : p.contains (j : Int) = true) : rlTo p (j + 1) = rlTo p j ++ [(j : Int)] := by
  obtain ⟨k, rfl⟩ : ∃ k, j = k + 1 := ⟨j - 1, by omega⟩
  unfold rlTo
  simp only [Nat.add_sub_cancel]
  rw [List.range_succ, List.map_append, List.filter_append]
  have h' : p.contains ((k : Int) + 1) = true := h
  simp only [List.map_cons, List.map_nil, List.filter_cons, h', List.filter_nil, if_true]
  rfl
theorem rlTo_no {p : List Int} {j : Nat} (hj : 0 < j) (h : p.contains (j : Int) = false) : rlTo p (j + 1) = rlTo p j := by
  obtain ⟨k, rfl⟩ : ∃ k, j = k + 1 := ⟨j - 1, by omega⟩
  unfold rlTo
  simp only [Nat.add_sub_cancel]
  rw [List.range_succ, List.map_append, List.filter_append]
  have h' : p.contains ((k : Int) + 1) = false := h
  simp only [List.map_cons, List.map_nil, List.filter_cons, h', List.filter_nil]
  simp
theorem rlTo_len (p : List Int) (j : Nat) : (rlTo p j).length ≤ j := by
  unfold rlTo
  refine Nat.le_trans (List.length_filter_le _ _) ?_
  simp
end In
/-- The row of what is named. -/
def bRow (p : List Int) : Array Value := #[.bool (p.contains 0), .bool (p.contains 1), .bool (p.contains 2), .bool (p.contains 3), .bool (p.contains 4), .bool (p.contains 5), .bool (p.contains 6), .bool (p.contains 7)]
theorem bRow_at (p : List Int) {j : Nat} (hj : j < 8) : (bRow p)[j]? = some (.bool (p.contains (j : Int))) := by
  rcases (show j = 0 ∨ j = 1 ∨ j = 2 ∨ j = 3 ∨ j = 4 ∨ j = 5 ∨ j = 6 ∨ j = 7 by omega) with rfl | rfl | rfl | rfl | rfl | rfl | rfl | rfl <;> rfl
theorem bRow_set (p : List Int) {j : Nat} (hj : j < 8) : (bRow p).setIfInBounds j (.bool true) = bRow ((j : Int) :: p) := by
  have hc : ∀ (x : Nat), ((j : Int) :: p).contains (x : Int) = (decide (x = j) || p.contains (x : Int)) := fun x => by
    rw [List.contains_cons]
    congr 1
    by_cases h : x = j
    · subst h; simp
    · have : ¬ (x : Int) = j := by omega
      simp [h, this]
  have h0 : ((j : Int) :: p).contains 0 = (decide (0 = j) || p.contains 0) := hc 0
  have h1 : ((j : Int) :: p).contains 1 = (decide (1 = j) || p.contains 1) := hc 1
  have h2 : ((j : Int) :: p).contains 2 = (decide (2 = j) || p.contains 2) := hc 2
  have h3 : ((j : Int) :: p).contains 3 = (decide (3 = j) || p.contains 3) := hc 3
  have h4 : ((j : Int) :: p).contains 4 = (decide (4 = j) || p.contains 4) := hc 4
  have h5 : ((j : Int) :: p).contains 5 = (decide (5 = j) || p.contains 5) := hc 5
  have h6 : ((j : Int) :: p).contains 6 = (decide (6 = j) || p.contains 6) := hc 6
  have h7 : ((j : Int) :: p).contains 7 = (decide (7 = j) || p.contains 7) := hc 7
  unfold bRow
  rw [h0, h1, h2, h3, h4, h5, h6, h7]
  clear hc h0 h1 h2 h3 h4 h5 h6 h7
  rcases (show j = 0 ∨ j = 1 ∨ j = 2 ∨ j = 3 ∨ j = 4 ∨ j = 5 ∨ j = 6 ∨ j = 7 by omega) with rfl | rfl | rfl | rfl | rfl | rfl | rfl | rfl <;>
    (apply Array.ext'; simp)
theorem bRow_swap (x y : Int) (p : List Int) : bRow (x :: y :: p) = bRow (y :: x :: p) := by
  have h : ∀ z : Int, (x :: y :: p).contains z = (y :: x :: p).contains z := fun z => by
    simp only [List.contains_cons]; cases (z == x) <;> cases (z == y) <;> rfl
  unfold bRow
  simp only [h]
theorem row1 {n : Nat} (h : n < 8) : ([Value.bool false, .bool false, .bool false, .bool false, .bool false, .bool false, .bool false, .bool false].set n (.bool true)).toArray = bRow [(n : Int)] := by
  rw [← bRow_set [] h]
  simp [bRow]
theorem row2 {n m : Nat} (h : n < 8) (k : m < 8) : (([Value.bool false, .bool false, .bool false, .bool false, .bool false, .bool false, .bool false, .bool false].set n (.bool true)).set m (.bool true)).toArray = bRow [(n : Int), (m : Int)] := by
  rw [bRow_swap, ← bRow_set [(n : Int)] k, ← row1 h]
  simp
theorem in_reg {x : Int} (h0 : 0 ≤ x) (h1 : x ≤ 7) : ∃ n : Nat, n < 8 ∧ x = (n : Int) := ⟨x.toNat, by omega, by omega⟩
set_option maxRecDepth 100000 in
set_option maxHeartbeats 40000000 in
theorem rrds_any (i : In.I) (r : List Int) (hr : In.rds i = r) (w : World) : Calls Try.prog 24 #[iAgg i] w fun e w' => (∃ v, e = .returned v ∧ NumsIn w' v r) ∧ Below w.heap.size w w' := by
  obtain ⟨z, hz⟩ : ∃ z, In.chk i = z := ⟨_, rfl⟩
  have HK := Lib.hid (rchk_any i z hz)
  rw [In.rds_pk, hz] at hr
  by_cases h0 : z = 0
  · have hv : In.kn i.k = true := (In.chk_zero (hz.trans h0)).1
    have hV := In.V.of (hz.trans h0)
    subst h0
    clear hz
    simp at hr
    obtain ⟨p, hp⟩ : ∃ p, In.pk i = p := ⟨_, rfl⟩
    rw [hp] at hr
    obtain ⟨k, a, b, c, o, m⟩ := i
    obtain ⟨-, -, a0, a1, b0, b1, c0, c1, -, -, -, -⟩ := hV
    simp only at hv a0 a1 b0 b1 c0 c1
    obtain ⟨na, ha, rfl⟩ := in_reg a0 a1
    obtain ⟨nb, hb', rfl⟩ := in_reg b0 b1
    obtain ⟨nc, hc', rfl⟩ := in_reg c0 c1
    clear a0 a1 b0 b1 c0 c1
    unfold iAgg at HK ⊢
    simp only at HK ⊢
    have HB := Lib.hid (Bi.new (w := w) (k := k) (a := na) (b := nb) (c := nc) (o := o) (m := m))
    have hmk := mk_8
    go_enter Try.func24, Try.ntmps24
    go_upto_block 0 with (go_at_call 19; refine (HK.out _).mono ?_; rintro e u ⟨rfl, hb⟩; have HB := Lib.hid (HB.out.below hb); clear hb; obtain ⟨c0, c1, c2, c3, c4, c5⟩ := HB.out.cells; have hlt := HB.out.bi.lt)
    have HZ := Lib.hid (show Bk (u.alloc (.cells #[.bool false, .bool false, .bool false, .bool false, .bool false, .bool false, .bool false, .bool false] 4)) u.heap.size 4 (bRow []) ∧ Below w.heap.size w (u.alloc (.cells #[.bool false, .bool false, .bool false, .bool false, .bool false, .bool false, .bool false, .bool false] 4)) from ⟨Bk.new _ _ _, bla HB.out.bel _⟩)
    have xa : (na : Int) < 8 := by omega
    have xb : (nb : Int) < 8 := by omega
    have xc : (nc : Int) < 8 := by omega
    go_cut [3] from 12 to 45 (fun y wc => y = .slice (some ⟨u.heap.size, 0, none⟩) 8 8 ∧ Hid (Bk wc u.heap.size 4 (bRow p) ∧ Below w.heap.size w wc))
    case first =>
      clear HK hr hmk
      rcases In.kn_cases hv with rfl | rfl | rfl | rfl | rfl | rfl | rfl | rfl | rfl | rfl | rfl
      all_goals
        simp [In.pk] at hp
        subst hp
        clear hv
      all_goals first | (go_wp2; go_meet; done) | (go_wp2; go_meet) | (go_wp2_with fail; go_region; go_wp2; go_meet)
      all_goals refine ⟨rfl, Lib.hid ⟨?_, ?_⟩⟩
      all_goals first | exact HZ.out.1 | exact HZ.out.2 | (rw [← row1 ha]; exact Bk.new _ _ _) | (rw [← row1 hb']; exact Bk.new _ _ _) | (rw [← row2 hb' hc']; exact (Bk.new _ _ _).below (below_drewN _ _ 1)) | (rw [← row2 ha hb']; exact (Bk.new _ _ _).below (below_drewN _ _ 1)) | exact bla HB.out.bel _ | exact blt (bla HB.out.bel _) (below_drewN _ _ 1) | fail "no row"
    case rest =>
      obtain ⟨rfl, HY⟩ := hcut
      clear HZ HB HK hmk hp hv xa xb xc ha hb' hc' c0 c1 c2 c3 c4 c5 hlt
      obtain ⟨G, hG⟩ : ∃ G, u.heap.size = G := ⟨_, rfl⟩
      rw [hG] at HY ⊢
      clear hG
      have HR := Lib.hid hr
      clear hr
      obtain ⟨iI, hi0, hz0, hz1, hz2⟩ := info_parts minfo_int
      have HII := Lib.hid (And.intro hi0 (And.intro hz0 (And.intro hz1 hz2)))
      clear hi0 hz0 hz1 hz2
      go_wp2_with fail
      go_loopw [4, 5] (fun v j wr => ∃ (n : Nat) (y : Value), 1 ≤ n ∧ n ≤ 8 ∧ j = .int .i64 (n : Nat) ∧ y = v ∧ Hid (wr.ownsRow w.heap.size 3 1 y (In.rlTo p n).length ((In.rlTo p n).map (Value.int .i64)) ∧ Bk wr G 4 (bRow p) ∧ Below w.heap.size w wr)) (fun _ j _ => 8 - (intOf j).toNat)
      case atStart => exact ⟨1, _, by omega, by omega, rfl, rfl, Lib.hid ⟨World.ownsRow_nil _ _ _ _, HY.out.1, HY.out.2⟩⟩
      case round =>
        obtain ⟨n, y, hn0, hn, rfl, rfl, HQ⟩ := hrel
        clear HY
        by_cases hlt : (n : Int) < 8
        · have hx : wr.cell? ⟨G, n, none⟩ = some (.bool (p.contains (n : Int))) := by rw [HQ.out.2.1.cell]; exact bRow_at p (by omega)
          cases hc : p.contains (n : Int)
          · rw [hc] at hx
            have hno := In.rlTo_no (by omega) hc
            have HQ2 := Lib.hid (show wr.ownsRow w.heap.size 3 1 y (In.rlTo p (n + 1)).length ((In.rlTo p (n + 1)).map (Value.int .i64)) ∧ Bk wr G 4 (bRow p) ∧ Below w.heap.size w wr from by rw [hno]; exact HQ.out)
            clear hc hno HQ
            go_wp2
            exact ⟨⟨n + 1, _, by omega, by omega, by first | rfl | go_num, rfl, HQ2⟩, by simp [intOf]; omega⟩
          · rw [hc] at hx
            have hyes := In.rlTo_yes (by omega) hc
            have hbk : Below wr.heap.size wr (wr.alloc (.cells #[.int .i64 (n : Int)] 3)) := bla (Below.refl _ _) _
            have HRow := Lib.hid (own_below HQ.out.1 hbk)
            have hsz := HQ.out.2.2.size
            have hlen := In.rlTo_len p n
            have hGl := HQ.out.2.1.lt
            clear hc
            go_wp2_with (at_builtin; refine wpList_append_row rfl _ _ 45 rfl w.heap.size 3 iI _ 1 8 Try.underlying45 HII.out.1 HII.out.2.1 HII.out.2.2.1 HII.out.2.2.2 rfl (by decide) _ _ _ rfl (HRow.out) _ _ _ rfl (lit_num wr _ _ _ rfl) ?qc3 ?qc4 ?qc5 ?qc6 ?_)
            case qc3 => exact one_z
            case qc4 => unfold maxLen; omega
            case qc5 => omega
            case qc6 => rw [size_alloc]; omega
            intro v2 w3 hown hg hv2
            have HQ2 := Lib.hid (show w3.ownsRow w.heap.size 3 1 v2 (In.rlTo p (n + 1)).length ((In.rlTo p (n + 1)).map (Value.int .i64)) ∧ Bk w3 G 4 (bRow p) ∧ Below w.heap.size w w3 from by
              rw [hyes, List.length_append, List.map_append]
              exact ⟨hown, bk_grown_t (HQ.out.2.1.below hbk) HRow.out (by decide) hg, (blt HQ.out.2.2 hbk).grown hg (blt HQ.out.2.2 hbk).size (fun k hk => (HRow.out.lt k hk).1)⟩)
            clear hown hg hv2 HRow HQ hyes hx hbk
            go_wp2
            exact ⟨⟨n + 1, _, by omega, by omega, by first | rfl | go_num, rfl, HQ2⟩, by simp [intOf]; omega⟩
        · have h8 : n = 8 := by omega
          subst h8
          have HE := Lib.hid (show NumsIn wr y r ∧ Below w.heap.size w wr from ⟨by have := RowIn.own HQ.out.1; rw [← HR.out]; unfold NumsIn; rw [← In.rlTo_all]; exact this, HQ.out.2.2⟩)
          clear HQ HR
          go_wp2
          go_ret
          exact ⟨⟨_, rfl, HE.out.1⟩, HE.out.2⟩
  · rw [if_neg h0] at hr
    subst hr
    clear hz
    obtain ⟨k, a, b, c, o, m⟩ := i
    unfold iAgg at HK ⊢
    simp only at HK ⊢
    have HB := Lib.hid (Bi.new (w := w) (k := k) (a := a) (b := b) (c := c) (o := o) (m := m))
    go_enter Try.func24, Try.ntmps24
    go_wp2_with (go_at_call 19; refine (HK.out _).mono ?_; rintro e u ⟨rfl, hb⟩; have HB := Lib.hid (HB.out.below hb); clear hb)
    go_ret
    exact ⟨⟨_, rfl, RowIn.nil _ _⟩, HB.out.bel⟩
end Go.Proofs.Ythcjohfngnffpaa
