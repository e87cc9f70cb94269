/- The specification's Scan: the tokens of a text. -/
import Derived.Test.YtbppfhlpielpcaaDoorTkScan
namespace Go.Proofs.YtbppfhlpielpcaaDoor
open Go.RowKit Go.Maps Go.WideMaps Go.WideElems Tk
set_option linter.unusedVariables false
set_option maxRecDepth 100000

/-! ### The sign with which a text begins -/
def rsgn : List (List UInt8) → List UInt8 → List UInt8
  | [], _ => []
  | x :: r, l => if x.length ≤ l.length ∧ l.take x.length = x then x else rsgn r l
theorem rsgn_app (k : Nat) (xs ys : List (List UInt8)) (l : List UInt8) (hx : ∀ x ∈ xs, x.length = k) : rsgn (xs ++ ys) l = if k ≤ l.length ∧ l.take k ∈ xs then l.take k else rsgn ys l := by
  induction xs with
  | nil => simp
  | cons x r ih =>
    have hk := hx x (by simp)
    have ih := ih (fun y hy => hx y (by simp [hy]))
    rw [List.cons_append, rsgn, hk]
    by_cases a : k ≤ l.length ∧ l.take k = x
    · rw [if_pos a, if_pos ⟨a.1, by rw [a.2]; simp⟩, a.2]
    · rw [if_neg a, ih]
      by_cases b : k ≤ l.length
      · have hne : l.take k ≠ x := fun e => a ⟨b, e⟩
        simp [b, hne]
      · simp [b]
def two : List (List UInt8) := [[60, 60], [62, 62], [60, 61], [61, 61], [33, 61]]
def ones : List (List UInt8) := [[43], [45], [42], [47], [37], [38], [124], [94], [60], [61], [40], [41], [91], [93], [123], [125]]
theorem signs_parts : Tk.signs = two ++ ones := rfl
theorem two_len : ∀ x ∈ two, x.length = 2 := by decide
theorem ones_len : ∀ x ∈ ones, x.length = 1 := by decide
theorem mem_two {l : List UInt8} (h : l.length = 2) : isSign l = true ↔ l ∈ two := by
  unfold isSign
  rw [List.contains_iff_mem, signs_parts, List.mem_append]
  constructor
  · rintro (a | a)
    · exact a
    · have := ones_len l a; omega
  · exact .inl
theorem mem_one {l : List UInt8} (h : l.length = 1) : isSign l = true ↔ l ∈ ones := by
  unfold isSign
  rw [List.contains_iff_mem, signs_parts, List.mem_append]
  constructor
  · rintro (a | a)
    · have := two_len l a; omega
    · exact a
  · exact .inr
theorem rsgn_eq (l : List UInt8) (h : 0 < l.length) : rsgn Tk.signs l = l.take (sgn l) := by
  rw [signs_parts, rsgn_app 2 two ones l two_len]
  have e1 : rsgn ones l = if 1 ≤ l.length ∧ l.take 1 ∈ ones then l.take 1 else [] := by
    have := rsgn_app 1 ones [] l ones_len
    rw [List.append_nil] at this
    exact this
  rw [e1]
  have h1 : (l.take 1).length = 1 := by rw [List.length_take]; omega
  by_cases b : 2 ≤ l.length ∧ isSign (l.take 2) = true
  · have h2 : (l.take 2).length = 2 := by rw [List.length_take]; omega
    have e : sgn l = 2 := if_pos b
    rw [e, if_pos ⟨b.1, (mem_two h2).1 b.2⟩]
  · have hb : ¬ (2 ≤ l.length ∧ l.take 2 ∈ two) := fun c => b ⟨c.1, (mem_two (by rw [List.length_take]; omega)).2 c.2⟩
    rw [if_neg hb]
    by_cases c : isSign (l.take 1) = true
    · have e : sgn l = 1 := by unfold sgn; rw [if_neg b, if_pos c]
      rw [e, if_pos ⟨by omega, (mem_one h1).1 c⟩]
    · have e : sgn l = 0 := by unfold sgn; rw [if_neg b, if_neg c]
      rw [e, if_neg (fun d => c ((mem_one h1).2 d.2)), List.take_zero]
def signVals : Array Value := (Tk.signs.map fun l => Value.string (mk l)).toArray
theorem signVals_at (i : Nat) (h : i < 21) : signVals[i]? = some (.string (mk (Tk.signs[i]'h))) := by
  unfold signVals
  rw [List.getElem?_toArray, List.getElem?_map, List.getElem?_eq_getElem (show i < Tk.signs.length from h)]
  rfl
theorem rSigns_any (w : World) : Calls Tryd.prog 37 #[] w fun e w' => e = .returned (.slice (some ⟨w.heap.size, 0, none⟩) 21 21) ∧ w' = w.alloc (.cells signVals 9) := by
  go_enter Tryd.func37, Tryd.ntmps37
  go_wp2
  go_ret
  exact ⟨rfl, rfl⟩
theorem below_drewN (B : Nat) (w : World) (n : Nat) : Below B w (w.drewN n) := ⟨rfl, rfl, rfl, Nat.le_refl _, fun _ _ => rfl⟩
theorem ret_str {a b : ByteArray} (h : a = b) : Ending.returned (.string a) = .returned (.string b) := by rw [h]
theorem mk_inj {a : List UInt8} : (mk a).toList = a := by rw [Lib.toList_data]; rfl
set_option maxHeartbeats 1000000 in
theorem rsign_any (s : ByteArray) (hs : s.size ≤ maxLen) (w : World) :
    Calls Tryd.prog 23 #[.string s] w fun e w' => e = .returned (.string (mk (rsgn Tk.signs (bs s)))) ∧ Below w.heap.size w w' := by
  unfold maxLen at hs
  go_enter Tryd.func23, Tryd.ntmps23
  go_wp2_with fail
  refine (rSigns_any _).mono ?_
  rintro e w1 ⟨rfl, hw1⟩
  have hcell : ∀ i (h : i < 21), w1.cell? ⟨w.heap.size, i, none⟩ = some (.string (mk (Tk.signs[i]'h))) := fun i h => by
    rw [hw1, cell_of_row _ _ i signVals 9 (0, 0) (heap_alloc_new w _)]
    exact signVals_at i h
  have hb1 : Below w.heap.size w w1 := by rw [hw1]; exact (Below.refl _ w).alloc (Nat.le_refl _) _
  have HC := Lib.hid hcell
  have HB := Lib.hid hb1
  clear hw1 hcell hb1
  go_wp2
  go_loopw [4] (fun i wr => ∃ k n : Nat, k ≤ 21 ∧ i = .int .i64 k ∧ Hid (wr = w1.drewN n) ∧ Hid (rsgn Tk.signs (bs s) = rsgn (Tk.signs.drop k) (bs s))) (fun i _ => 21 - (intOf i).toNat)
  case atStart => exact ⟨0, 0, by omega, rfl, Lib.hid (World.drewN_zero _).symm, Lib.hid rfl⟩
  case round =>
    obtain ⟨k, n, hk, rfl, hw, hg⟩ := hrel
    have hw' := hw.out
    subst hw'
    clear hw
    by_cases hlt : k < 21
    · have hlt' : (k : Int) < 21 := by omega
      obtain ⟨p, hp⟩ : ∃ p : ByteArray, p = mk (Tk.signs[k]'hlt) := ⟨_, rfl⟩
      have hc : w1.cell? ⟨w.heap.size, k, none⟩ = some (.string p) := by rw [HC.out k hlt, hp]
      have hd : Tk.signs.drop k = (Tk.signs[k]'hlt) :: Tk.signs.drop (k + 1) := List.drop_eq_getElem_cons hlt
      have HP := Lib.hid hp
      have HD := Lib.hid hd
      have hps : p.size ≤ 2 := by
        rw [hp, mk_size]
        exact (show ∀ x ∈ Tk.signs, x.length ≤ 2 by decide) _ (List.getElem_mem hlt)
      clear hp hd
      by_cases hle : p.size ≤ s.size
      · have hle' : (p.size : Int) ≤ s.size := by omega
        have htake : (s.extract 0 p.size).toList = (bs s).take p.size := by rw [Lib.toList_data]; exact bs_upto s _
        have hpl : p.toList = Tk.signs[k]'hlt := by rw [HP.out, mk_inj]
        have hpz : p.size = (Tk.signs[k]'hlt).length := by rw [HP.out, mk_size]
        cases heq : ((s.extract 0 p.size).toList == p.toList)
        · have hn : rsgn Tk.signs (bs s) = rsgn (Tk.signs.drop (k + 1)) (bs s) := by
            have : (bs s).take (Tk.signs[k]'hlt).length ≠ Tk.signs[k]'hlt := by
              rw [htake, hpl, hpz] at heq
              simpa using heq
            rw [hg.out, HD.out, rsgn, if_neg (fun a => this a.2)]
          have HN := Lib.hid hn
          clear hn hg htake hpl hpz
          go_wp2_with fail
          go_quiet (fail)
          go_wp2
          go_roundw
          case rel => exact ⟨k + 1, _, by omega, by go_num, Lib.hid rfl, HN⟩
          case measure => simp [intOf]; omega
        · have hn : rsgn Tk.signs (bs s) = bs p := by
            have h1 : (bs s).take (Tk.signs[k]'hlt).length = Tk.signs[k]'hlt := by
              rw [htake, hpl, hpz] at heq
              simpa using heq
            have h2 : (Tk.signs[k]'hlt).length ≤ (bs s).length := by rw [bs_len, ← hpz]; exact hle
            rw [hg.out, HD.out, rsgn, if_pos ⟨h2, h1⟩, HP.out, bs_mk]
          have HN := Lib.hid hn
          clear hn hg htake hpl hpz
          go_wp2_with fail
          go_quiet (fail)
          go_wp2
          go_ret
          exact ⟨ret_str (by rw [HN.out, mk_bs]), HB.out.trans (below_drewN _ _ _)⟩
      · have hle' : (s.size : Int) < p.size := by omega
        have hpz : p.size = (Tk.signs[k]'hlt).length := by rw [HP.out, mk_size]
        have hn : rsgn Tk.signs (bs s) = rsgn (Tk.signs.drop (k + 1)) (bs s) := by
          rw [hg.out, HD.out, rsgn, if_neg (fun a => by have := a.1; rw [bs_len, ← hpz] at this; omega)]
        have HN := Lib.hid hn
        clear hn hg hpz
        go_wp2_with fail
        go_quiet (fail)
        go_wp2
        go_roundw
        case rel => exact ⟨k + 1, _, by omega, by go_num, Lib.hid rfl, HN⟩
        case measure => simp [intOf]; omega
    · have hfin : rsgn Tk.signs (bs s) = [] := by
        rw [hg.out, List.drop_of_length_le (show Tk.signs.length ≤ k by show 21 ≤ k; omega)]; rfl
      have HF := Lib.hid hfin
      clear hfin hg
      go_wp2
      go_ret
      exact ⟨by rw [HF.out]; rfl, HB.out.trans (below_drewN _ _ _)⟩
end Go.Proofs.YtbppfhlpielpcaaDoor
