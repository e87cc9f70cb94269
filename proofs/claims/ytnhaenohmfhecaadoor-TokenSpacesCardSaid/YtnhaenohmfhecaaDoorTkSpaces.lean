/- The walk of the law TokenSpaces: it answers true. -/
import Derived.Test.YtnhaenohmfhecaaDoorTkAgain
namespace Go.Proofs.YtnhaenohmfhecaaDoor
open Go.RowKit Go.Maps Go.WideMaps Go.WideElems Tk
set_option linter.unusedVariables false

def sepList : List (List UInt8) := [[32], [9], [10], [32, 10, 32]]
theorem sepList_sep : ∀ x ∈ sepList, x.length ≤ 3 ∧ ∀ c ∈ x, sep c = true := by decide
def pc (k : Int) (ww : List UInt8) (i : Nat) (t : Tok) : List UInt8 := (if (i : Int) = k then ww else []) ++ [32] ++ wordL t
def bld (k : Int) (ww : List UInt8) : Nat → List Tok → List UInt8
  | _, [] => []
  | i, t :: r => pc k ww i t ++ bld k ww (i + 1) r
theorem bld_snoc (k : Int) (ww : List UInt8) (A : List Tok) (t : Tok) : ∀ i, bld k ww i (A ++ [t]) = bld k ww i A ++ pc k ww (i + A.length) t := by
  induction A with
  | nil => intro i; simp [bld]
  | cons x r ih => intro i; simp only [List.cons_append, bld, ih, List.append_assoc, List.length_cons]; rw [show i + 1 + r.length = i + (r.length + 1) by omega]
theorem pc_len {k : Int} {ww : List UInt8} (hw : ww.length ≤ 3) (i : Nat) (t : Tok) : (pc k ww i t).length ≤ 4 + (wordL t).length := by
  unfold pc
  split <;> simp <;> omega
theorem bld_len {k : Int} {ww : List UInt8} (hw : ww.length ≤ 3) (T : List Tok) : ∀ i, (bld k ww i T).length ≤ 4 * T.length + wlen T := by
  induction T with
  | nil => intro i; simp [bld]
  | cons t r ih =>
    intro i
    have h1 := pc_len (k := k) hw i t
    have h2 := ih (i + 1)
    simp only [bld, wlen, List.flatMap_cons, List.length_append, List.length_cons] at *
    omega
theorem pc_ends {k : Int} {ww : List UInt8} (hw : ∀ c ∈ ww, sep c = true) (i : Nat) (t : Tok) (R : List UInt8) : Tk.Ends (pc k ww i t ++ R) := by
  unfold pc
  split
  · cases ww with
    | nil => exact .inr ⟨32, _, rfl, by decide⟩
    | cons c x => exact .inr ⟨c, _, rfl, hw c (by simp)⟩
  · exact .inr ⟨32, _, rfl, by decide⟩
theorem bld_ends {k : Int} {ww : List UInt8} (hw : ∀ c ∈ ww, sep c = true) (T : List Tok) (i : Nat) : Tk.Ends (bld k ww i T) := by
  cases T with
  | nil => exact .inl rfl
  | cons t r => exact pc_ends hw i t _
theorem strip_bld {k : Int} {ww : List UInt8} (hw : ∀ c ∈ ww, sep c = true) (T : List Tok) (hT : ∀ t ∈ T, Tk.Good t) : ∀ (i : Nat) (n : Int), strip (go (bld k ww i T) n) = some (T.map er0) := by
  induction T with
  | nil => intro i n; rfl
  | cons t r ih =>
    intro i n
    have e : bld k ww i (t :: r) = ((if (i : Int) = k then ww else []) ++ [32]) ++ (wordL t ++ bld k ww (i + 1) r) := by simp [bld, pc]
    rw [e, strip_seps _ _ _ (by
      intro c hc
      rcases List.mem_append.1 hc with hc | hc
      · split at hc
        · exact hw c hc
        · cases hc
      · rw [List.mem_singleton.1 hc]; decide),
      strip_word (hT t (by simp)) _ (bld_ends hw r (i + 1)), ih (fun x hx => hT x (by simp [hx]))]
    rfl
theorem bld_step (k : Int) (ww : List UInt8) (T : List Tok) (j : Nat) (t : Tok) (h : T[j]? = some t) : bld k ww 0 (T.take (j + 1)) = bld k ww 0 (T.take j) ++ pc k ww j t := by
  obtain ⟨hk, he⟩ := List.getElem?_eq_some_iff.1 h
  rw [List.take_succ_eq_append_getElem hk, bld_snoc, he, List.length_take, Nat.min_eq_left (by omega), Nat.zero_add]
theorem strip_round {l ww : List UInt8} {T : List Tok} (hw : ∀ c ∈ ww, sep c = true) (h : go l 1 = .ok T) : strip (go (ww ++ l ++ ww) 1) = some (T.map er0) := by
  have h1 : strip (go l 1) = some (T.map er0) := by rw [h]; rfl
  rw [List.append_assoc, strip_seps _ _ _ hw, strip_end ww hw l.length l 1 (Nat.le_refl _) (by rw [h1]; simp), h1]
def sepVals : Array Value := (sepList.map fun l => Value.string (mk l)).toArray
theorem sepVals_at (i : Nat) (h : i < 4) : sepVals[i]? = some (.string (mk (sepList.getD i []))) := by
  unfold sepVals
  have hi : i < sepList.length := h
  rw [List.getElem?_toArray, List.getElem?_map, List.getElem?_eq_getElem hi]
  simp [List.getD, hi]
set_option maxRecDepth 100000 in
set_option maxHeartbeats 4000000 in
theorem spaces_law (v : Value) (zs : List Int) (at_ how : Int) (w : World) (hv : IntsIn .u8 w v zs) (hz : ∀ z ∈ zs, 0 ≤ z ∧ z ≤ 255) (hmax : zs.length ≤ maxLen)
    (ha : -9223372036854775808 ≤ at_ ∧ at_ ≤ 9223372036854775807) (hh : 0 ≤ how ∧ how ≤ 255) (ht : Tab w) :
    Calls Tryd.prog 6 #[v, .int .i64 at_, .int .u8 how] w fun e w' => e = .returned (.bool true) ∧ Below w.heap.size w w' := by
  have hlen := piecesL_len zs
  have hs1 : (mk (piecesL zs)).size ≤ maxLen := by rw [mk_size]; unfold maxLen; omega
  have HP := Lib.hid (pieces_any v zs w hv hz hmax)
  have HS := Lib.hid (scan_any (mk (piecesL zs)) hs1)
  rw [bs_mk] at HS
  have HT := Lib.hid ht
  have HAt := Lib.hid ha
  clear hs1 ht hv hz ha
  generalize piecesL zs = l at *
  obtain ⟨m, hm⟩ : ∃ m : Nat, how = (m : Int) := ⟨how.toNat, by omega⟩
  subst hm
  obtain ⟨_, hh2⟩ := hh
  obtain ⟨ww, hww⟩ : ∃ ww, ww = sepList.getD (m % 4) [] := ⟨_, rfl⟩
  have hmem : ww ∈ sepList := by
    rw [hww]
    have hi : m % 4 < sepList.length := Nat.mod_lt _ (by decide)
    rw [List.getD_eq_getElem?_getD, List.getElem?_eq_getElem hi]
    exact List.getElem_mem hi
  obtain ⟨hw3, hws⟩ := sepList_sep ww hmem
  have HWS := Lib.hid hws
  have hsel : sepVals[m % 4]? = some (.string (mk ww)) := by rw [hww]; exact sepVals_at _ (Nat.mod_lt _ (by decide))
  have HSel := Lib.hid hsel
  clear hww hmem hws hsel
  go_enter Tryd.func6, Tryd.ntmps6
  go_wp2_with fail
  refine HP.out.mono ?_
  rintro e w1 ⟨rfl, hb1⟩
  have HB1 := Lib.hid hb1
  clear hb1
  go_wp2_with fail
  refine (HS.out _).mono ?_
  rintro e w2 ⟨⟨v2, he, hown2⟩, hb2⟩
  have HB2 := Lib.hid (HB1.out.trans (hb2.mono HB1.out.size))
  cases hg : go l 1 with
  | error m2 =>
    obtain ⟨o1, o2, o3⟩ := out_no (by omega) hg
    rw [o2, o3] at he
    subst he
    clear o1 o2 o3 hg hown2 hb2
    go_wp2_with fail
    refine (awake_any _ (tab_below HT.out HB2.out)).mono ?_
    rintro e w5 ⟨rfl, hb5⟩
    have HB5 := Lib.hid (HB2.out.trans (hb5.mono HB2.out.size))
    clear hb5
    go_wp2
    go_ret
    exact ⟨rfl, HB5.out⟩
  | ok T =>
    obtain ⟨o1, o2, o3⟩ := out_ok (by omega) hg
    have hfine := scan_fine _ _ _ _ hg
    have hcount := count _ _ _ _ hg
    have hround := strip_round HWS.out hg
    rw [o2, o3] at he
    rw [o1] at hown2
    subst he
    have hwl := hfine.2
    have HF := Lib.hid hfine.1
    obtain ⟨len, hl⟩ : ∃ len, T.length = len := ⟨_, rfl⟩
    have hln : len ≤ 720 := by omega
    have hwT : wlen T ≤ 720 := by omega
    obtain ⟨U, hU, hUm⟩ := strip_ok hround
    obtain ⟨u1, u2, u3⟩ := out_ok (l := ww ++ l ++ ww) (by simp only [List.length_append]; omega) hU
    have HU := Lib.hid (And.intro u1 (And.intro u2 u3))
    have HAl := Lib.hid (alike_strip hUm.symm)
    have HS2 := Lib.hid (scan_any (mk (ww ++ l ++ ww)) (by rw [mk_size]; simp only [List.length_append]; unfold maxLen; omega))
    rw [bs_mk] at HS2
    have hadd1 := add_mk ww l (by omega)
    have hadd2 := add_mk (ww ++ l) ww (by rw [List.length_append]; omega)
    obtain ⟨L1, hL1⟩ : ∃ L1, L1 = ww ++ l := ⟨_, rfl⟩
    obtain ⟨L2, hL2⟩ : ∃ L2, L2 = ww ++ l ++ ww := ⟨_, rfl⟩
    rw [← hL2, ← hL1] at hadd2
    rw [← hL1] at hadd1
    rw [← hL2] at HU HS2
    clear hL1 hL2
    have hcell : (w2.alloc (.cells sepVals 9)).cell? ⟨w2.heap.size, m % 4, none⟩ = some (.string (mk ww)) := by
      rw [cell_of_row _ _ (m % 4) sepVals 9 (0, 0) (heap_alloc_new w2 _)]
      exact HSel.out
    have HO2 := Lib.hid hown2
    clear o1 o2 o3 hg hb2 hown2 hfine hcount hwl u1 u2 u3 hU hUm hround
    have harr : (#[Value.string ⟨#[32]⟩, Value.string ⟨#[9]⟩, Value.string ⟨#[10]⟩, Value.string ⟨#[32, 10, 32]⟩] : Array Value)[m % 4]? = some (.string (mk ww)) := HSel.out
    by_cases h0 : len = 0
    · have hT0 : T.length = 0 := by rw [hl]; exact h0
      have hown2 := HO2.out
      rw [hT0] at hown2
      obtain ⟨A, c, rfl⟩ := own_nil hown2
      rw [← hT0] at hown2
      subst h0
      have HL := Lib.hid hl
      replace HO2 : Hid (w2.ownsRow w1.heap.size 23 4 (.slice A 0 c) T.length (rows T)) := Lib.hid (by rw [hT0] at hown2 ⊢; exact hown2)
      clear hown2 hT0 hl
      go_wp2_with fail
      refine (HS2.out _).mono ?_
      rintro e w3 ⟨⟨v3, he, hown3⟩, hb3⟩
      rw [HU.out.2.1, HU.out.2.2] at he
      rw [HU.out.1] at hown3
      subst he
      have HO3 := Lib.hid hown3
      have HA3 := Lib.hid (own_below HO2.out (below_in hb3))
      have HB3 := Lib.hid (HB2.out.trans ((below_in hb3).mono HB2.out.size))
      clear hb3 hown3 hadd1 hadd2 harr hcell
      go_wp2_with fail
      refine (same_any false _ _ (.slice A 0 c) v3 T U _ HA3.out HO3.out HAl.out (by rw [HL.out]; unfold maxLen; omega)).mono ?_
      rintro e w4 ⟨rfl, nq, rfl⟩
      have HA4 := Lib.hid (own_below HA3.out (below_drewN _ w3 nq))
      have HB4 := Lib.hid (HB3.out.trans (below_drewN _ w3 nq))
      have hkb : 0 ≤ at_ % (0 + 1) ∧ at_ % (0 + 1) ≤ 0 := by
        have h1 := Int.emod_nonneg at_ (show (0 : Int) + 1 ≠ 0 by omega)
        have h2 := Int.emod_lt_of_pos at_ (show (0 : Int) < 0 + 1 by omega)
        omega
      have HM := Lib.hid (mod_any at_ (0 + 1) HAt.out (by omega))
      generalize at_ % (0 + 1) = kk at HM hkb
      obtain ⟨hk0, hk1⟩ := hkb
      generalize hw5 : w3.drewN nq = w5 at HA4 HB4 ⊢
      clear hw5
      go_wp2_with fail
      refine (HM.out _).mono ?_
      rintro e w6 ⟨rfl, rfl⟩
      go_wp2_with fail
      go_loopw [15, 17] (fun s i wr => i = .int .i64 0 ∧ s = .string (mk (bld kk ww 0 (T.take 0))) ∧ Hid (wr = w5)) (fun _ _ _ => 0)
      case atStart => exact ⟨rfl, rfl, Lib.hid rfl⟩
      case round =>
        obtain ⟨rfl, rfl, hw⟩ := hrel
        have hw' := hw.out
        subst hw'
        have hR : Hid (wr.ownsRow w1.heap.size 23 4 (.slice A 0 c) T.length (rows T) ∧ Below w.heap.size w wr) := Lib.hid ⟨HA4.out, HB4.out⟩
        clear hw
        have hfin : strip (go (bld kk ww 0 T) 1) = some (T.map er0) := strip_bld HWS.out T HF.out.good 0 1
        obtain ⟨X, hX, hXm⟩ := strip_ok hfin
        have hsl : (bld kk ww 0 T).length ≤ 8192 := by have := bld_len (k := kk) hw3 T 0; rw [HL.out] at this; omega
        obtain ⟨o1, o2, o3⟩ := out_ok hsl hX
        have hkT : T.take 0 = T := List.take_of_length_le (by rw [HL.out]; omega)
        rw [hkT]
        have HS3 := Lib.hid (scan_any (mk (bld kk ww 0 T)) (by rw [mk_size]; unfold maxLen; omega))
        rw [bs_mk] at HS3
        have HOo := Lib.hid (And.intro o1 (And.intro o2 o3))
        have HAl2 := Lib.hid (alike_strip hXm.symm)
        clear hfin hX hXm o1 o2 o3 hkT
        go_wp2_with fail
        refine (HS3.out _).mono ?_
        rintro e w7 ⟨⟨v7, he, hown7⟩, hb7⟩
        rw [HOo.out.2.1, HOo.out.2.2] at he
        rw [HOo.out.1] at hown7
        subst he
        have HB7 := Lib.hid (hR.out.2.trans (hb7.mono hR.out.2.size))
        have HA7 := Lib.hid (own_below hR.out.1 hb7)
        have HO7 := Lib.hid hown7
        clear hb7 hown7
        go_wp2_with fail
        refine (same_any false _ _ (.slice A 0 c) v7 T X _ HA7.out HO7.out HAl2.out (by rw [HL.out]; unfold maxLen; omega)).mono ?_
        rintro e w8 ⟨rfl, nq2, rfl⟩
        have HB8 := Lib.hid (HB7.out.trans (below_drewN _ _ nq2))
        go_wp2_with fail
        refine (awake_any _ (tab_below HT.out HB8.out)).mono ?_
        rintro e w9 ⟨rfl, hb9⟩
        have HB9 := Lib.hid (HB8.out.trans (hb9.mono HB8.out.size))
        clear hb9
        go_wp2
        go_ret
        exact ⟨rfl, HB9.out⟩
    · have hown2 := HO2.out
      obtain ⟨g, c, rfl⟩ := own_slice hown2 (by omega)
      have hown3 : w2.ownsRow w1.heap.size 23 4 (.slice (some ⟨g, 0, none⟩) len c) T.length (rows T) := by
        rw [show (Value.slice (some ⟨g, 0, none⟩) T.length c) = .slice (some ⟨g, 0, none⟩) len c from by rw [hl]] at hown2
        exact hown2
      rw [hl]
      have HL := Lib.hid hl
      replace HO2 := Lib.hid hown3
      clear hown2 hown3 hl
      go_wp2_with fail
      refine (HS2.out _).mono ?_
      rintro e w3 ⟨⟨v3, he, hown3⟩, hb3⟩
      rw [HU.out.2.1, HU.out.2.2] at he
      rw [HU.out.1] at hown3
      subst he
      have HO3 := Lib.hid hown3
      have HA3 := Lib.hid (own_below HO2.out (below_in hb3))
      have HB3 := Lib.hid (HB2.out.trans ((below_in hb3).mono HB2.out.size))
      clear hb3 hown3 hadd1 hadd2 harr hcell
      go_wp2_with fail
      refine (same_any false _ _ (.slice (some ⟨g, 0, none⟩) len c) v3 T U _ HA3.out HO3.out HAl.out (by rw [HL.out]; unfold maxLen; omega)).mono ?_
      rintro e w4 ⟨rfl, nq, rfl⟩
      have HA4 := Lib.hid (own_below HA3.out (below_drewN _ w3 nq))
      have HB4 := Lib.hid (HB3.out.trans (below_drewN _ w3 nq))
      have hkb : 0 ≤ at_ % (len + 1) ∧ at_ % (len + 1) ≤ len := by
        have h1 := Int.emod_nonneg at_ (show (len : Int) + 1 ≠ 0 by omega)
        have h2 := Int.emod_lt_of_pos at_ (show (0 : Int) < len + 1 by omega)
        omega
      have HM := Lib.hid (mod_any at_ (len + 1) HAt.out (by omega))
      generalize at_ % (len + 1) = kk at HM hkb
      obtain ⟨hk0, hk1⟩ := hkb
      generalize hw5 : w3.drewN nq = w5 at HA4 HB4 ⊢
      clear hw5
      go_wp2_with fail
      refine (HM.out _).mono ?_
      rintro e w6 ⟨rfl, rfl⟩
      go_wp2_with fail
      go_loopw [15, 17] (fun s i wr => ∃ k : Nat, k ≤ len ∧ i = .int .i64 k ∧ s = .string (mk (bld kk ww 0 (T.take k))) ∧
          Hid (wr.ownsRow w1.heap.size 23 4 (.slice (some ⟨g, 0, none⟩) len c) T.length (rows T) ∧ Below w.heap.size w wr)) (fun _ i _ => len - (intOf i).toNat)
      case atStart => exact ⟨0, by omega, rfl, rfl, Lib.hid ⟨HA4.out, HB4.out⟩⟩
      case round =>
        obtain ⟨k, hk, rfl, rfl, hR⟩ := hrel
        by_cases hlt : k < len
        · have hc1 := hR.out.1
          obtain ⟨t, htk⟩ := getElem?_some (T := T) (k := k) (by rw [HL.out]; exact hlt)
          obtain ⟨p0, p1, p2, p3⟩ := row_cell hR.out.1 k t htk
          have hlt' : (k : Int) < len := by omega
          have hlen0 : (bld kk ww 0 (T.take k)).length ≤ 3600 := by
            have h1 := bld_len (k := kk) hw3 (T.take k) 0
            have h2 := wlen_take T k
            have h3 : (T.take k).length ≤ k := List.length_take_le _ _
            omega
          have hlenw := word_wlen htk
          have hstep := bld_step kk ww T k t htk
          have HW := Lib.hid (word_any t)
          have HTr := Lib.hid (tab_below HT.out hR.out.2)
          clear hc1
          generalize bld kk ww 0 (T.take k) = S0 at hlen0 hstep ⊢
          generalize hS1 : bld kk ww 0 (T.take (k + 1)) = S1 at hstep
          have HS1 := Lib.hid hS1
          clear hS1
          by_cases hjk : (k : Int) = kk
          · have hb : ((k : Int) == kk) = true := beq_iff_eq.2 hjk
            have hstep' : S1 = S0 ++ ww ++ [32] ++ wordL t := by rw [hstep]; unfold pc; rw [if_pos hjk]; simp
            obtain ⟨Sa, hSa⟩ : ∃ Sa, Sa = S0 ++ ww := ⟨_, rfl⟩
            obtain ⟨Sb, hSb⟩ : ∃ Sb, Sb = S0 ++ ww ++ [32] := ⟨_, rfl⟩
            have g1 := add_mk S0 ww (by omega)
            have g2 : ∀ w : World, (Op.stringOp .add (mk (S0 ++ ww)) ⟨#[32]⟩).run Tryd.prog w = .ok (.string (mk (S0 ++ ww ++ [32]))) w := fun w => add_mk (S0 ++ ww) [32] (by simp only [List.length_append, List.length_cons, List.length_nil]; omega) w
            have g3 := add_mk (S0 ++ ww ++ [32]) (wordL t) (by simp only [List.length_append, List.length_cons, List.length_nil]; omega)
            rw [← hstep', ← hSb] at g3
            rw [← hSb, ← hSa] at g2
            rw [← hSa] at g1
            clear hSa hSb hstep hstep' hlen0 hlenw hjk
            go_wp2_with fail
            refine (HW.out _ HTr.out).mono ?_
            rintro e w7 ⟨rfl, hb7⟩
            have HN := Lib.hid (And.intro (own_below hR.out.1 hb7) (hR.out.2.trans (hb7.mono hR.out.2.size)))
            clear hb7 p0 p1 p2 p3
            go_wp2
            go_roundw
            case rel => exact ⟨k + 1, by omega, by go_num, by rw [HS1.out], HN⟩
            case measure => simp [intOf]; omega
          · have hb : ((k : Int) == kk) = false := by simp [hjk]
            have hstep' : S1 = S0 ++ [32] ++ wordL t := by rw [hstep]; unfold pc; rw [if_neg hjk]; simp
            obtain ⟨Sb, hSb⟩ : ∃ Sb, Sb = S0 ++ [32] := ⟨_, rfl⟩
            have g2 : ∀ w : World, (Op.stringOp .add (mk S0) ⟨#[32]⟩).run Tryd.prog w = .ok (.string (mk (S0 ++ [32]))) w := fun w => add_mk S0 [32] (by simp only [List.length_cons, List.length_nil]; omega) w
            have g3 := add_mk (S0 ++ [32]) (wordL t) (by simp only [List.length_append, List.length_cons, List.length_nil]; omega)
            rw [← hstep', ← hSb] at g3
            rw [← hSb] at g2
            clear hSb hstep hstep' hlen0 hlenw hjk
            go_wp2_with fail
            refine (HW.out _ HTr.out).mono ?_
            rintro e w7 ⟨rfl, hb7⟩
            have HN := Lib.hid (And.intro (own_below hR.out.1 hb7) (hR.out.2.trans (hb7.mono hR.out.2.size)))
            clear hb7 p0 p1 p2 p3
            go_wp2
            go_roundw
            case rel => exact ⟨k + 1, by omega, by go_num, by rw [HS1.out], HN⟩
            case measure => simp [intOf]; omega
        · have hfin : strip (go (bld kk ww 0 T) 1) = some (T.map er0) := strip_bld HWS.out T HF.out.good 0 1
          obtain ⟨X, hX, hXm⟩ := strip_ok hfin
          have hsl : (bld kk ww 0 T).length ≤ 8192 := by have := bld_len (k := kk) hw3 T 0; rw [HL.out] at this; omega
          obtain ⟨o1, o2, o3⟩ := out_ok hsl hX
          have hkT : T.take k = T := List.take_of_length_le (by rw [HL.out]; omega)
          rw [hkT]
          have HS3 := Lib.hid (scan_any (mk (bld kk ww 0 T)) (by rw [mk_size]; unfold maxLen; omega))
          rw [bs_mk] at HS3
          have HOo := Lib.hid (And.intro o1 (And.intro o2 o3))
          have HAl2 := Lib.hid (alike_strip hXm.symm)
          clear hfin hX hXm o1 o2 o3 hkT
          go_wp2_with fail
          refine (HS3.out _).mono ?_
          rintro e w7 ⟨⟨v7, he, hown7⟩, hb7⟩
          rw [HOo.out.2.1, HOo.out.2.2] at he
          rw [HOo.out.1] at hown7
          subst he
          have HB7 := Lib.hid (hR.out.2.trans (hb7.mono hR.out.2.size))
          have HA7 := Lib.hid (own_below hR.out.1 hb7)
          have HO7 := Lib.hid hown7
          clear hb7 hown7
          go_wp2_with fail
          refine (same_any false _ _ (.slice (some ⟨g, 0, none⟩) len c) v7 T X _ HA7.out HO7.out HAl2.out (by rw [HL.out]; unfold maxLen; omega)).mono ?_
          rintro e w8 ⟨rfl, nq2, rfl⟩
          have HB8 := Lib.hid (HB7.out.trans (below_drewN _ _ nq2))
          go_wp2_with fail
          refine (awake_any _ (tab_below HT.out HB8.out)).mono ?_
          rintro e w9 ⟨rfl, hb9⟩
          have HB9 := Lib.hid (HB8.out.trans (hb9.mono HB8.out.size))
          clear hb9
          go_wp2
          go_ret
          exact ⟨rfl, HB9.out⟩
end Go.Proofs.YtnhaenohmfhecaaDoor
