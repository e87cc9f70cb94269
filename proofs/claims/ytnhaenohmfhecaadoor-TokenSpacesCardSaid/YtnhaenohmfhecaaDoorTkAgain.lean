/- The walk of the law TokenAgain: it answers true. -/
import Derived.Test.YtnhaenohmfhecaaDoorTkPieces
import Derived.Test.YtnhaenohmfhecaaDoorTkMore
namespace Go.Proofs.YtnhaenohmfhecaaDoor
open Go.RowKit Go.Maps Go.WideMaps Go.WideElems Tk
set_option linter.unusedVariables false

def sp (T : List Tok) : List UInt8 := T.flatMap fun t => wordL t ++ [32]
theorem sp_snoc (T : List Tok) (k : Nat) (t : Tok) (h : T[k]? = some t) : sp (T.take (k + 1)) = sp (T.take k) ++ wordL t ++ [32] := by
  obtain ⟨hk, he⟩ := List.getElem?_eq_some_iff.1 h
  unfold sp
  rw [List.take_succ_eq_append_getElem hk, List.flatMap_append, he]
  simp
theorem sp_len (T : List Tok) : (sp T).length = wlen T + T.length := by
  induction T with
  | nil => rfl
  | cons t r ih =>
    unfold sp wlen at *
    simp only [List.flatMap_cons, List.length_append, List.length_cons, List.length_nil] at *
    omega
theorem wlen_take (T : List Tok) (k : Nat) : wlen (T.take k) ≤ wlen T := by
  have h : T.flatMap wordL = (T.take k).flatMap wordL ++ (T.drop k).flatMap wordL := by rw [← List.flatMap_append, List.take_append_drop]
  unfold wlen
  rw [h, List.length_append]; omega
theorem word_wlen {T : List Tok} {k : Nat} {t : Tok} (h : T[k]? = some t) : (wordL t).length ≤ wlen T := by
  obtain ⟨hk, he⟩ := List.getElem?_eq_some_iff.1 h
  have h1 : T = T.take k ++ t :: T.drop (k + 1) := by
    rw [← he, ← List.drop_eq_getElem_cons hk, List.take_append_drop]
  rw [h1]
  unfold wlen
  simp only [List.flatMap_append, List.flatMap_cons, List.length_append]
  omega
theorem strip_sp (T : List Tok) (hT : ∀ t ∈ T, Tk.Good t) (n : Int) : strip (go (sp T) n) = some (T.map er0) := by
  induction T with
  | nil => rfl
  | cons t r ih =>
    have e : sp (t :: r) = wordL t ++ 32 :: sp r := by unfold sp; simp
    rw [e, strip_word (hT t (by simp)) _ (.inr ⟨32, sp r, rfl, by decide⟩), strip_line 32 _ n (by decide), ih (fun x hx => hT x (by simp [hx]))]
    rfl
theorem line_rise {T : List Tok} {n : Int} (h : Fine n T) {i : Nat} {a b : Tok} (ha : T[i]? = some a) (hb : T[i + 1]? = some b) : a.line ≤ b.line := by
  obtain ⟨h1, e1⟩ := List.getElem?_eq_some_iff.1 ha
  obtain ⟨h2, e2⟩ := List.getElem?_eq_some_iff.1 hb
  have := List.pairwise_iff_getElem.1 h.rise i (i + 1) h1 h2 (by omega)
  rw [e1, e2] at this
  exact this
theorem getElem?_some {T : List Tok} {k : Nat} (h : k < T.length) : ∃ t, T[k]? = some t := ⟨T[k], List.getElem?_eq_getElem h⟩
set_option maxHeartbeats 2000000 in
theorem again_law (v : Value) (zs : List Int) (w : World) (hv : IntsIn .u8 w v zs) (hz : ∀ z ∈ zs, 0 ≤ z ∧ z ≤ 255) (hmax : zs.length ≤ maxLen) (ht : Tab w) :
    Calls Tryd.prog 5 #[v] w fun e w' => e = .returned (.bool true) ∧ Below w.heap.size w w' := by
  have hlen := piecesL_len zs
  have hs1 : (mk (piecesL zs)).size ≤ maxLen := by rw [mk_size]; unfold maxLen; omega
  have HP := Lib.hid (pieces_any v zs w hv hz hmax)
  have HS := Lib.hid (scan_any (mk (piecesL zs)) hs1)
  rw [bs_mk] at HS
  have HT := Lib.hid ht
  clear hs1 ht hv hz
  generalize piecesL zs = l at *
  go_enter Tryd.func5, Tryd.ntmps5
  go_wp2_with fail
  refine HP.out.mono ?_
  rintro e w1 ⟨rfl, hb1⟩
  have HB1 := Lib.hid hb1
  clear hb1
  go_wp2_with fail
  refine (HS.out _).mono ?_
  rintro e w2 ⟨⟨v2, he, hown2⟩, hb2⟩
  have HB2 := Lib.hid (HB1.out.trans (hb2.mono HB1.out.size))
  cases hg : go l 1 with
  | error m =>
    obtain ⟨o1, o2, o3⟩ := out_no (by omega) hg
    rw [o2, o3] at he
    subst he
    clear o1 o2 o3 hg hown2 hb2
    go_wp2_with fail
    refine (awake_any _ (tab_below HT.out HB2.out)).mono ?_
    rintro e w5 ⟨rfl, hb5⟩
    have HB5 := Lib.hid (HB2.out.trans (hb5.mono HB2.out.size))
    clear hb5
    go_wp2
    go_ret
    exact ⟨rfl, HB5.out⟩
  | ok T =>
    obtain ⟨o1, o2, o3⟩ := out_ok (by omega) hg
    have hfine := scan_fine _ _ _ _ hg
    have hcount := count _ _ _ _ hg
    rw [o2, o3] at he
    rw [o1] at hown2
    subst he
    have hwl := hfine.2
    have HF := Lib.hid hfine.1
    obtain ⟨len, hl⟩ : ∃ len, T.length = len := ⟨_, rfl⟩
    have hln : len ≤ 720 := by omega
    have HF := HF
    by_cases h0 : len = 0
    · have hT0 : T.length = 0 := by rw [hl]; exact h0
      rw [hT0] at hown2
      obtain ⟨A, c, rfl⟩ := own_nil hown2
      rw [← hT0] at hown2
      have HL := Lib.hid hl
      have HO := Lib.hid hown2
      have hwT : wlen T ≤ 720 := by omega
      subst h0
      clear o1 o2 o3 hg hb2 hown2 hl hfine hcount hwl
      go_wp2_with fail
      go_loopw [6, 7] (fun s i wr => i = .int .i64 0 ∧ s = .string (mk (sp (T.take 0))) ∧ Hid (wr = w2)) (fun _ _ _ => 0)
      case atStart => exact ⟨rfl, rfl, Lib.hid rfl⟩
      case round =>
        obtain ⟨rfl, rfl, hw⟩ := hrel
        have hw' := hw.out
        subst hw'
        have hR : Hid (wr.ownsRow w1.heap.size 23 4 (.slice A 0 c) T.length (rows T) ∧ Below w.heap.size w wr) := Lib.hid ⟨by rw [hT0] at HO ⊢; exact HO.out, HB2.out⟩
        clear hw hT0
        have hfin : strip (go (sp T) 1) = some (T.map er0) := strip_sp T HF.out.good 1
        obtain ⟨U, hU, hUm⟩ := strip_ok hfin
        have hsl : (sp T).length ≤ 8192 := by rw [sp_len, HL.out]; omega
        obtain ⟨o1, o2, o3⟩ := out_ok hsl hU
        have hkT : T.take 0 = T := List.take_of_length_le (by rw [HL.out]; omega)
        rw [hkT]
        have HS2 := Lib.hid (scan_any (mk (sp T)) (by rw [mk_size]; unfold maxLen; omega))
        rw [bs_mk] at HS2
        have HOo := Lib.hid (And.intro o1 (And.intro o2 o3))
        have HAl := Lib.hid (alike_strip hUm.symm)
        clear hfin hU hUm o1 o2 o3 hkT
        go_wp2_with fail
        refine (HS2.out _).mono ?_
        rintro e w3 ⟨⟨v3, he, hown3⟩, hb3⟩
        rw [HOo.out.2.1, HOo.out.2.2] at he
        rw [HOo.out.1] at hown3
        subst he
        have HB3 := Lib.hid (hR.out.2.trans (hb3.mono hR.out.2.size))
        have HO2 := Lib.hid (own_below hR.out.1 hb3)
        have HO3 := Lib.hid hown3
        clear hb3 hown3
        go_wp2_with fail
        refine (same_any false _ _ _ v3 T U _ HO2.out HO3.out HAl.out (by rw [HL.out]; unfold maxLen; omega)).mono ?_
        rintro e w4 ⟨rfl, nq, rfl⟩
        have HB4 := Lib.hid (HB3.out.trans (below_drewN _ _ nq))
        go_wp2_with fail
        refine (awake_any _ (tab_below HT.out HB4.out)).mono ?_
        rintro e w5 ⟨rfl, hb5⟩
        have HB5 := Lib.hid (HB4.out.trans (hb5.mono HB4.out.size))
        clear hb5
        go_wp2
        go_ret
        exact ⟨rfl, HB5.out⟩
    · obtain ⟨g, c, rfl⟩ := own_slice hown2 (by omega)
      have hown3 : w2.ownsRow w1.heap.size 23 4 (.slice (some ⟨g, 0, none⟩) len c) T.length (rows T) := by
        rw [show (Value.slice (some ⟨g, 0, none⟩) T.length c) = .slice (some ⟨g, 0, none⟩) len c from by rw [hl]] at hown2
        exact hown2
      rw [hl]
      have HL := Lib.hid hl
      have HO := Lib.hid hown3
      have hwT : wlen T ≤ 720 := by omega
      clear o1 o2 o3 hg hb2 hown2 hown3 hl hfine hcount hwl
      go_wp2_with fail
      go_loopw [6, 7] (fun s i wr => ∃ k : Nat, k ≤ len ∧ i = .int .i64 k ∧ s = .string (mk (sp (T.take k))) ∧
          Hid (wr.ownsRow w1.heap.size 23 4 (.slice (some ⟨g, 0, none⟩) len c) T.length (rows T) ∧ Below w.heap.size w wr)) (fun _ i _ => len - (intOf i).toNat)
      case atStart => exact ⟨0, by omega, rfl, rfl, Lib.hid ⟨HO.out, HB2.out⟩⟩
      case round =>
        obtain ⟨k, hk, rfl, rfl, hR⟩ := hrel
        by_cases hlt : k < len
        · obtain ⟨t, htk⟩ := getElem?_some (T := T) (k := k) (by rw [HL.out]; exact hlt)
          have hlt' : (k : Int) < len := by omega
          have hrow := row_cell hR.out.1 k t htk
          have hlenk : (sp (T.take k)).length ≤ 1440 := by
            rw [sp_len]
            have h1 := wlen_take T k
            have h2 : (T.take k).length ≤ k := List.length_take_le _ _
            omega
          have hlenw := word_wlen htk
          have hadd1 := add_mk (sp (T.take k)) (wordL t) (by omega)
          have hadd2 : ∀ w : World, (Op.stringOp .add (mk (sp (T.take k) ++ wordL t)) ⟨#[32]⟩).run Tryd.prog w = .ok (.string (mk (sp (T.take (k + 1))))) w := fun w => by
            rw [sp_snoc T k t htk]
            exact add_mk (sp (T.take k) ++ wordL t) [32] (by rw [List.length_append, List.length_cons, List.length_nil]; omega) w
          have HW := Lib.hid (word_any t)
          have HTr := Lib.hid (tab_below HT.out hR.out.2)
          obtain ⟨p0, p1, p2, p3⟩ := hrow
          clear hlenk hlenw
          generalize sp (T.take k) = S0 at hadd1 hadd2 ⊢
          generalize hS1 : sp (T.take (k + 1)) = S1 at hadd2
          have HS1 := Lib.hid hS1
          clear hS1
          cases k with
          | zero =>
            go_wp2_with fail
            go_quiet (fail)
            go_wp2_with fail
            refine (HW.out _ (tab_below HTr.out (below_drewN _ _ _))).mono ?_
            rintro e w3 ⟨rfl, hb3⟩
            have hb3' : Below wr.heap.size wr w3 := ⟨hb3.os, hb3.tape, hb3.output, hb3.size, hb3.block⟩
            have HN := Lib.hid (And.intro (own_below hR.out.1 hb3') (hR.out.2.trans (hb3'.mono hR.out.2.size)))
            clear hb3 hb3' p0 p1 p2 p3
            go_wp2
            go_roundw
            case rel => exact ⟨1, by omega, by go_num, by rw [HS1.out], HN⟩
            case measure => simp [intOf]; omega
          | succ j =>
            obtain ⟨u, huj⟩ := getElem?_some (T := T) (k := j) (by rw [HL.out]; omega)
            obtain ⟨q0, q1, q2, q3⟩ := row_cell hR.out.1 j u huj
            have hline := line_rise HF.out huj htk
            have hle : ¬ (t.line < u.line) := by omega
            clear q0 q1 q3 hline
            go_wp2_with fail
            go_quiet (fail)
            go_wp2_with fail
            refine (HW.out _ (tab_below HTr.out (below_drewN _ _ _))).mono ?_
            rintro e w3 ⟨rfl, hb3⟩
            have hb3' : Below wr.heap.size wr w3 := ⟨hb3.os, hb3.tape, hb3.output, hb3.size, hb3.block⟩
            have HN := Lib.hid (And.intro (own_below hR.out.1 hb3') (hR.out.2.trans (hb3'.mono hR.out.2.size)))
            clear hb3 hb3' p0 p1 p2 p3 q2
            go_wp2
            go_roundw
            case rel => exact ⟨j + 1 + 1, by omega, by go_num, by rw [HS1.out], HN⟩
            case measure => simp [intOf]; omega
        · have hfin : strip (go (sp T) 1) = some (T.map er0) := strip_sp T HF.out.good 1
          obtain ⟨U, hU, hUm⟩ := strip_ok hfin
          have hsl : (sp T).length ≤ 8192 := by rw [sp_len, HL.out]; omega
          obtain ⟨o1, o2, o3⟩ := out_ok hsl hU
          have hkT : T.take k = T := List.take_of_length_le (by rw [HL.out]; omega)
          rw [hkT]
          have HS2 := Lib.hid (scan_any (mk (sp T)) (by rw [mk_size]; unfold maxLen; omega))
          rw [bs_mk] at HS2
          have HOo := Lib.hid (And.intro o1 (And.intro o2 o3))
          have HAl := Lib.hid (alike_strip hUm.symm)
          clear hfin hU hUm o1 o2 o3 hkT
          go_wp2_with fail
          refine (HS2.out _).mono ?_
          rintro e w3 ⟨⟨v3, he, hown3⟩, hb3⟩
          rw [HOo.out.2.1, HOo.out.2.2] at he
          rw [HOo.out.1] at hown3
          subst he
          have HB3 := Lib.hid (hR.out.2.trans (hb3.mono hR.out.2.size))
          have HO2 := Lib.hid (own_below hR.out.1 hb3)
          have HO3 := Lib.hid hown3
          clear hb3 hown3
          go_wp2_with fail
          refine (same_any false _ _ _ v3 T U _ HO2.out HO3.out HAl.out (by rw [HL.out]; unfold maxLen; omega)).mono ?_
          rintro e w4 ⟨rfl, nq, rfl⟩
          have HB4 := Lib.hid (HB3.out.trans (below_drewN _ _ nq))
          go_wp2_with fail
          refine (awake_any _ (tab_below HT.out HB4.out)).mono ?_
          rintro e w5 ⟨rfl, hb5⟩
          have HB5 := Lib.hid (HB4.out.trans (hb5.mono HB4.out.size))
          clear hb5
          go_wp2
          go_ret
          exact ⟨rfl, HB5.out⟩
end Go.Proofs.YtnhaenohmfhecaaDoor
