/- The specification's Scan: the tokens of a text, as the plain lists say. -/
import Derived.Test.YtbppfhlpielpcaaDoorTkRef
namespace Go.Proofs.YtbppfhlpielpcaaDoor
open Go.RowKit Go.Maps Go.WideMaps Go.WideElems Tk
set_option linter.unusedVariables false
set_option maxRecDepth 100000

theorem extract_cut (s : ByteArray) (a b : Nat) : s.extract a b = mk (((bs s).drop a).take (b - a)) := by
  rw [Lib.extract_eq]; rfl
theorem ws_head (l : List UInt8) (h : 0 < l.length) (hl : low l[0] = true) : ws true l = ws false l := by
  match l, h, hl with
  | c :: r, _, hl =>
    have hl : low c = true := hl
    rw [ws, ws, if_pos (by simp [hl]), if_pos (by simp [hl])]
theorem drop_head (l : List UInt8) (k : Nat) (h : k < l.length) : (l.drop k)[0]'(by rw [List.length_drop]; omega) = l[k] := by
  simp
theorem first_none_name {l : List UInt8} {k m : Nat} (h : k < l.length) (hl : low l[k] = true) (hw : ws false (l.drop k) = m - k) (hm : 12 < (m : Int) - k) : first (l.drop k) = none := by
  have h0 : 0 < (l.drop k).length := by rw [List.length_drop]; omega
  have hl' : low ((l.drop k)[0]'h0) = true := by rw [drop_head l k h]; exact hl
  rw [first_name _ h0 hl', ws_head _ h0 hl', hw, if_neg (by omega)]
theorem first_some_name {l : List UInt8} {k m : Nat} (h : k < l.length) (hl : low l[k] = true) (hw : ws false (l.drop k) = m - k) (hm : (m : Int) - k ≤ 12) : first (l.drop k) = some (⟨1, 0, 0, (l.drop k).take (m - k)⟩, m - k) := by
  have h0 : 0 < (l.drop k).length := by rw [List.length_drop]; omega
  have hl' : low ((l.drop k)[0]'h0) = true := by rw [drop_head l k h]; exact hl
  rw [first_name _ h0 hl', ws_head _ h0 hl', hw, if_pos (by omega)]
theorem first_dig {l : List UInt8} {k m : Nat} (h : k < l.length) (hl : low l[k] = false) (hd : dig l[k] = true) (hw : cntD (l.drop k) = m - k) :
    first (l.drop k) = if valR ((l.drop k).take (m - k)) < 0 then none else some (⟨2, valR ((l.drop k).take (m - k)), 0, []⟩, m - k) := by
  have h0 : 0 < (l.drop k).length := by rw [List.length_drop]; omega
  rw [first_num _ h0 (by rw [drop_head l k h]; exact hl) (by rw [drop_head l k h]; exact hd)]
  have hn := num_nonneg (l.drop k)
  unfold num at hn ⊢
  rw [hw] at hn ⊢
  unfold valR
  by_cases a : val 0 ((l.drop k).take (m - k)) ≤ 2147483647
  · rw [if_pos a, if_pos a, if_neg (by omega)]
  · rw [if_neg a, if_neg a, if_pos (by omega)]
theorem first_sgn {l : List UInt8} {k : Nat} (h : k < l.length) (hl : low l[k] = false) (hd : dig l[k] = false) :
    first (l.drop k) = if (rsgn Tk.signs (l.drop k)).length = 0 then none else some (⟨3, 0, 0, rsgn Tk.signs (l.drop k)⟩, (rsgn Tk.signs (l.drop k)).length) := by
  have h0 : 0 < (l.drop k).length := by rw [List.length_drop]; omega
  rw [first_sign _ h0 (by rw [drop_head l k h]; exact hl) (by rw [drop_head l k h]; exact hd), rsgn_eq _ h0]
  have := sgn_le (l.drop k) (List.ne_nil_of_length_pos h0)
  have e : ((l.drop k).take (sgn (l.drop k))).length = sgn (l.drop k) := by rw [List.length_take]; omega
  rw [e]
theorem valR_range (l : List UInt8) (h : ∀ c ∈ l, dig c = true) : -1 ≤ valR l ∧ valR l ≤ 2147483647 := by
  have := val_mono 0 l (Int.le_refl _) h
  unfold valR
  split <;> omega
theorem digs_cut {l : List UInt8} {k m : Nat} (hw : cntD (l.drop k) = m - k) : ∀ c ∈ (l.drop k).take (m - k), dig c = true := by
  rw [← hw]; exact digs _

theorem step_ref {l : List UInt8} {k n j B : Nat} {T : List Tok} {t : Tok} {w wr w2 w3 : World} {o : Obj} {v v' : Value}
    (hR : wr.ownsRow B 44 4 v T.length (rows T) ∧ Below B w wr ∧ At l k T n) (hBr : B ≤ wr.heap.size) (h2 : Below wr.heap.size wr w2)
    (hk : k < l.length) (hs : sep l[k] = false) (hf : first (l.drop k) = some (t, j))
    (ho : w3.ownsRow B 44 4 v' (T.length + 1) (rows T ++ cells { t with line := n })) (hg : (w2.alloc o).grownBy w3 v.ownBlock) :
    w3.ownsRow B 44 4 v' (T ++ [{ t with line := (n : Int) }]).length (rows (T ++ [{ t with line := (n : Int) }])) ∧ Below B w w3 ∧ At l (k + j) (T ++ [{ t with line := (n : Int) }]) n := by
  obtain ⟨ho0, hb, hat⟩ := hR
  have hb2 : Below B w (w2.alloc o) := (hb.trans (h2.mono hBr)).alloc (by have := h2.size; omega) _
  refine ⟨?_, hb2.grown hg (by have := h2.size; simp; omega) (fun q hq => ?_), at_some hat hk hs hf⟩
  · rw [rows_snoc, List.length_append]; exact ho
  · exact (ho0.lt q (by first | exact hq | exact hq.symm)).1
theorem rfin_ok {l : List UInt8} {k : Nat} {T : List Tok} {n : Int} {B : Nat} {w : World} {v : Value} (hl : l.length ≤ 8192) (h : At l k T n) (hk : l.length ≤ k) (ho : w.ownsRow B 44 4 v T.length (rows T)) :
    Scanned l B (.returned (.tuple #[v, .int .i64 0, .int .i64 0])) w := by
  obtain ⟨h1, h2, h3⟩ := out_ok hl (at_end h hk)
  exact ⟨v, by rw [h2, h3], by rw [h1]; exact ho⟩
theorem sep_cases {c : Int} (h : sepB c = false) : (c == 10) = false ∧ (c == 32) = false ∧ (c == 9) = false := by
  have := h
  simp [sepB] at this ⊢
  omega

set_option maxRecDepth 100000 in
set_option maxHeartbeats 4000000 in
theorem rscan_any (s : ByteArray) (hs : s.size ≤ maxLen) (w : World) :
    Calls Tryd.prog 11 #[.string s] w fun e w' => Scanned (bs s) w.heap.size e w' ∧ Below w.heap.size w w' := by
  unfold maxLen at hs
  have HL := Lib.hid (bs_len s)
  by_cases hbig : 8192 < s.size
  · have ho := out_long (l := bs s) (by rw [HL.out]; exact hbig)
    have HO := Lib.hid ho
    clear ho
    go_enter Tryd.func11, Tryd.ntmps11
    go_wp2
    go_ret3
    obtain ⟨h1, h2, h3⟩ := HO.out
    exact ⟨⟨_, by rw [h2, h3]; rfl, by rw [h1]; exact World.ownsRow_nil _ _ _ _⟩, Below.refl _ _⟩
  have hsm : s.size ≤ 8192 := by omega
  clear hbig
  obtain ⟨i0, hi0, hz0, hz1, hz2⟩ := info_parts Tryd.infoTok
  have HI := Lib.hid (And.intro hi0 (And.intro hz0 (And.intro hz1 hz2)))
  clear hi0 hz0 hz1 hz2
  go_enter Tryd.func11, Tryd.ntmps11
  go_wp2_with fail
  go_loopw [5, 6, 7] (fun v m i wr => ∃ (k n : Nat) (T : List Tok), k ≤ s.size ∧ i = .int .i64 k ∧ m = .int .i64 n ∧ n ≤ k + 1 ∧ T.length ≤ k ∧ w.heap.size ≤ wr.heap.size ∧
      Hid (wr.ownsRow w.heap.size 44 4 v T.length (rows T) ∧ Below w.heap.size w wr ∧ At (bs s) k T n)) (fun _ _ i _ => s.size - (intOf i).toNat)
  case atStart => exact ⟨0, 1, [], Nat.zero_le _, rfl, rfl, by omega, by simp, Nat.le_refl _, Lib.hid ⟨World.ownsRow_nil _ _ _ _, Below.refl _ _, at_start _⟩⟩
  case round =>
    obtain ⟨k, n, T, hk, rfl, rfl, hn, hT, hwr, hR⟩ := hrel
    by_cases hlt : k < s.size
    · have hlt' : k < (bs s).length := by rw [HL.out]; exact hlt
      cases hse : sepB ((s[k]'hlt).toNat : Int)
      · have HSe := Lib.hid hse
        clear hse
        obtain ⟨b10, b32, b9⟩ := sep_cases HSe.out
        have n32 : ¬ ((s[k]'hlt).toNat : Int) = 32 := by simpa using b32
        cases hlo : lowB ((s[k]'hlt).toNat : Int)
        · have HLo := Lib.hid hlo
          clear hlo
          cases hdi : digB ((s[k]'hlt).toNat : Int)
          · have HDi := Lib.hid hdi
            clear hdi
            have hfs := first_sgn hlt' HLo.out HDi.out
            have hrs := rsign_any (s.extract k s.size) (by have := Lib.size_eq (s.extract k s.size); rw [this, Lib.extract_data, List.length_take]; unfold maxLen; omega) wr
            rw [bs_from] at hrs
            generalize hp : rsgn Tk.signs ((bs s).drop k) = p at hfs hrs
            have HFS := Lib.hid hfs
            have HRS := Lib.hid hrs
            have HP := Lib.hid hp
            clear hfs hrs hp
            go_wp2_with (first | (go_at_call 20; refine (rletter_any _ false HLo.out _).mono ?_; rintro e w' ⟨rfl, rfl⟩) | (go_at_call 21; refine (rdigit_any _ false HDi.out _).mono ?_; rintro e w' ⟨rfl, rfl⟩))
            refine HRS.out.mono ?_
            rintro e w2 ⟨rfl, hb2⟩
            have hw2 : wr.heap.size ≤ w2.heap.size := hb2.size
            have HB2 := Lib.hid hb2
            clear hb2
            obtain ⟨P, hP⟩ : ∃ P, P = mk p := ⟨_, rfl⟩
            rw [← hP]
            have hPs : P.size = p.length := by rw [hP]; rfl
            have hPl : P.toList = p := by rw [hP, mk_inj]
            have HPP := Lib.hid hP
            clear hP
            by_cases hz : P.size = 0
            · have hf : first ((bs s).drop k) = none := by rw [HFS.out, if_pos (by omega)]
              have he : P.toList = [] := by rw [hPl]; exact List.eq_nil_of_length_eq_zero (by omega)
              have HF := Lib.hid hf
              clear hf hPs hPl hz
              go_wp2
              go_ret3
              exact ⟨fin_no (by rw [HL.out]; exact hsm) hR.out.2.2 hlt' HSe.out HF.out, hR.out.2.1.trans (HB2.out.mono hwr)⟩
            · have hf : first ((bs s).drop k) = some (⟨3, 0, 0, p⟩, P.size) := by rw [HFS.out, if_neg (by omega), hPs]
              have he : P.toList.isEmpty = false := by rw [hPl]; cases p with | nil => exact absurd hPs hz | cons a b => rfl
              have HF := Lib.hid hf
              have hj := first_size HF.out
              have hj2 : k + P.size ≤ s.size := by have := hj.2; rw [List.length_drop, HL.out] at this; omega
              have hp1 : 1 ≤ P.size := by omega
              clear hf hPs hPl hz hj
              go_wp2_with (at_builtin; refine wpList_append_own _ rfl (.tmp 34) (.tmp 38) 38 rfl w.heap.size 44 i0 _ 4 40 Tryd.underlying38 HI.out.1 HI.out.2.1 HI.out.2.2.1 HI.out.2.2.2 rfl (by decide) _ T.length (rows T) rfl ((own_below hR.out.1 HB2.out).alloc _) ⟨w2.heap.size, 0, none⟩ 1 1 [.int .i64 3, .int .i64 0, .int .i64 n, .string P] rfl rfl (by rw [HPP.out]; exact news_cells w2 ⟨3, 0, n, p⟩ _) (by rw [HPP.out]; exact cells_one ⟨3, 0, n, p⟩) (by unfold maxLen; omega) (by omega) (by simp; omega) ?_; intro v' w3 hown3 hgrow3 _)
              have hst := step_ref (t := ⟨3, 0, 0, p⟩) hR.out hwr HB2.out hlt' HSe.out HF.out (by rw [HPP.out] at hown3; exact hown3) hgrow3
              have HST := Lib.hid hst
              have hw3 : w.heap.size ≤ w3.heap.size := hst.2.1.size
              clear hst hown3 hgrow3
              go_roundw
              case rel => exact ⟨k + P.size, n, T ++ [⟨3, 0, n, p⟩], by omega, by go_num, rfl, by omega, by simp; omega, hw3, Lib.hid HST.out⟩
              case measure => simp [intOf]; omega
          · have HDi := Lib.hid hdi
            clear hdi
            go_wp2_with (first | (go_at_call 20; refine (rletter_any _ false HLo.out _).mono ?_; rintro e w' ⟨rfl, rfl⟩) | (go_at_call 21; refine (rdigit_any _ true HDi.out _).mono ?_; rintro e w' ⟨rfl, rfl⟩))
            obtain ⟨wo, hwo⟩ : ∃ wo : World, wo = wr := ⟨_, rfl⟩
            subst hwo
            go_loop [9] (fun e => ∃ m : Nat, k ≤ m ∧ m ≤ s.size ∧ e = .int .i64 m ∧ Hid (cntD ((bs s).drop k) = (m - k) + cntD ((bs s).drop m))) (fun e => s.size - (intOf e).toNat)
            case atStart => exact ⟨k, Nat.le_refl _, by omega, rfl, Lib.hid (by simp)⟩
            case round =>
              obtain ⟨m, hkm, hms, rfl, hc⟩ := hrel
              have tail : cntD ((bs s).drop m) = 0 → cntD ((bs s).drop k) = m - k := fun h => by rw [hc.out, h]; omega
              by_cases hm : m < s.size
              · have hm' : m < (bs s).length := by rw [HL.out]; exact hm
                cases hd2 : digB ((s[m]'hm).toNat : Int)
                · have HD2 := Lib.hid hd2
                  have hcnt := tail (cntD_stop (bs s) m hm' HD2.out)
                  clear hd2 tail
                  have hfd := first_dig hlt' HLo.out HDi.out hcnt
                  have hex : bs (s.extract k m) = ((bs s).drop k).take (m - k) := by rw [extract_cut, bs_mk]
                  have hval := rvalue_any (s.extract k m) (by have := Lib.size_eq (s.extract k m); rw [this, Lib.extract_data, List.length_take, List.length_drop]; unfold maxLen; have := Lib.size_eq s; omega) (by rw [hex]; exact digs_cut hcnt)
                  rw [hex] at hval
                  generalize hV : valR (((bs s).drop k).take (m - k)) = V at hfd hval
                  have hVb : -1 ≤ V ∧ V ≤ 2147483647 := by rw [← hV]; exact valR_range _ (digs_cut hcnt)
                  obtain ⟨hVl, hVh⟩ := hVb
                  have HFD := Lib.hid hfd
                  have HVA := Lib.hid hval
                  clear hfd hval hex hV hcnt hc
                  by_cases hneg : V < 0
                  · have hf : first ((bs s).drop k) = none := by rw [HFD.out, if_pos hneg]
                    have HF := Lib.hid hf
                    clear hf
                    go_wp2_with (first | (go_at_call 21; refine (rdigit_any _ false HD2.out _).mono ?_; rintro e w' ⟨rfl, rfl⟩) | (go_at_call 22; refine (HVA.out _).mono ?_; rintro e w' ⟨rfl, rfl⟩))
                    go_ret3
                    exact ⟨fin_no (by rw [HL.out]; exact hsm) hR.out.2.2 hlt' HSe.out HF.out, hR.out.2.1⟩
                  · have hf : first ((bs s).drop k) = some (⟨2, V, 0, []⟩, m - k) := by rw [HFD.out, if_neg hneg]
                    have HF := Lib.hid hf
                    have hj := first_size HF.out
                    have hj1 : k < m := by omega
                    clear hf hj
                    go_wp2_with (first | (go_at_call 21; refine (rdigit_any _ false HD2.out _).mono ?_; rintro e w' ⟨rfl, rfl⟩) | (go_at_call 22; refine (HVA.out _).mono ?_; rintro e w' ⟨rfl, rfl⟩) | (at_builtin; refine wpList_append_own _ rfl (.tmp 114) (.tmp 118) 38 rfl w.heap.size 44 i0 _ 4 40 Tryd.underlying38 HI.out.1 HI.out.2.1 HI.out.2.2.1 HI.out.2.2.2 rfl (by decide) _ T.length (rows T) rfl (hR.out.1.alloc _) ⟨wo.heap.size, 0, none⟩ 1 1 [.int .i64 2, .int .i64 V, .int .i64 n, .string ⟨#[]⟩] rfl rfl (news_cells wo ⟨2, V, n, []⟩ _) (cells_one ⟨2, V, n, []⟩) (by unfold maxLen; omega) (by omega) (by simp; omega) ?_; intro v' w3 hown3 hgrow3 _))
                    have hst := step_ref (t := ⟨2, V, 0, []⟩) hR.out hwr (Below.refl _ _) hlt' HSe.out HF.out hown3 hgrow3
                    have HST := Lib.hid hst
                    have hw3 : w.heap.size ≤ w3.heap.size := hst.2.1.size
                    clear hst hown3 hgrow3
                    go_roundw
                    case rel => exact ⟨m, n, T ++ [⟨2, V, n, []⟩], by omega, rfl, rfl, by omega, by simp; omega, hw3, Lib.hid (by have := HST.out; rw [show k + (m - k) = m by omega] at this; exact this)⟩
                    case measure => simp [intOf]; omega
                · have HD2 := Lib.hid hd2
                  have hcn : cntD ((bs s).drop k) = (m + 1 - k) + cntD ((bs s).drop (m + 1)) := by
                    rw [hc.out, cntD_step (bs s) m hm' HD2.out]; omega
                  have HCN := Lib.hid hcn
                  clear hd2 tail hcn hc
                  go_wp2_with (first | (go_at_call 21; refine (rdigit_any _ true HD2.out _).mono ?_; rintro e w' ⟨rfl, rfl⟩))
                  go_round
                  case rel => exact ⟨m + 1, by omega, by omega, by go_num, HCN⟩
                  case measure => simp [intOf]; omega
              · have hcnt := tail (cntD_end _ _ (by rw [HL.out]; omega))
                have HD2 : Hid (digB 0 = false) := Lib.hid rfl
                clear tail
                have hfd := first_dig hlt' HLo.out HDi.out hcnt
                have hex : bs (s.extract k m) = ((bs s).drop k).take (m - k) := by rw [extract_cut, bs_mk]
                have hval := rvalue_any (s.extract k m) (by have := Lib.size_eq (s.extract k m); rw [this, Lib.extract_data, List.length_take, List.length_drop]; unfold maxLen; have := Lib.size_eq s; omega) (by rw [hex]; exact digs_cut hcnt)
                rw [hex] at hval
                generalize hV : valR (((bs s).drop k).take (m - k)) = V at hfd hval
                have hVb : -1 ≤ V ∧ V ≤ 2147483647 := by rw [← hV]; exact valR_range _ (digs_cut hcnt)
                obtain ⟨hVl, hVh⟩ := hVb
                have HFD := Lib.hid hfd
                have HVA := Lib.hid hval
                clear hfd hval hex hV hcnt hc
                by_cases hneg : V < 0
                · have hf : first ((bs s).drop k) = none := by rw [HFD.out, if_pos hneg]
                  have HF := Lib.hid hf
                  clear hf
                  go_wp2_with (first | (go_at_call 21; refine (rdigit_any _ false HD2.out _).mono ?_; rintro e w' ⟨rfl, rfl⟩) | (go_at_call 22; refine (HVA.out _).mono ?_; rintro e w' ⟨rfl, rfl⟩))
                  go_ret3
                  exact ⟨fin_no (by rw [HL.out]; exact hsm) hR.out.2.2 hlt' HSe.out HF.out, hR.out.2.1⟩
                · have hf : first ((bs s).drop k) = some (⟨2, V, 0, []⟩, m - k) := by rw [HFD.out, if_neg hneg]
                  have HF := Lib.hid hf
                  have hj := first_size HF.out
                  have hj1 : k < m := by omega
                  clear hf hj
                  go_wp2_with (first | (go_at_call 21; refine (rdigit_any _ false HD2.out _).mono ?_; rintro e w' ⟨rfl, rfl⟩) | (go_at_call 22; refine (HVA.out _).mono ?_; rintro e w' ⟨rfl, rfl⟩) | (at_builtin; refine wpList_append_own _ rfl (.tmp 114) (.tmp 118) 38 rfl w.heap.size 44 i0 _ 4 40 Tryd.underlying38 HI.out.1 HI.out.2.1 HI.out.2.2.1 HI.out.2.2.2 rfl (by decide) _ T.length (rows T) rfl (hR.out.1.alloc _) ⟨wo.heap.size, 0, none⟩ 1 1 [.int .i64 2, .int .i64 V, .int .i64 n, .string ⟨#[]⟩] rfl rfl (news_cells wo ⟨2, V, n, []⟩ _) (cells_one ⟨2, V, n, []⟩) (by unfold maxLen; omega) (by omega) (by simp; omega) ?_; intro v' w3 hown3 hgrow3 _))
                  have hst := step_ref (t := ⟨2, V, 0, []⟩) hR.out hwr (Below.refl _ _) hlt' HSe.out HF.out hown3 hgrow3
                  have HST := Lib.hid hst
                  have hw3 : w.heap.size ≤ w3.heap.size := hst.2.1.size
                  clear hst hown3 hgrow3
                  go_roundw
                  case rel => exact ⟨m, n, T ++ [⟨2, V, n, []⟩], by omega, rfl, rfl, by omega, by simp; omega, hw3, Lib.hid (by have := HST.out; rw [show k + (m - k) = m by omega] at this; exact this)⟩
                  case measure => simp [intOf]; omega
        · have HLo := Lib.hid hlo
          clear hlo
          go_wp2_with (first | (go_at_call 20; refine (rletter_any _ true HLo.out _).mono ?_; rintro e w' ⟨rfl, rfl⟩))
          obtain ⟨wo, hwo⟩ : ∃ wo : World, wo = wr := ⟨_, rfl⟩
          subst hwo
          go_loop [9] (fun e => ∃ m : Nat, k ≤ m ∧ m ≤ s.size ∧ e = .int .i64 m ∧ Hid (ws false ((bs s).drop k) = (m - k) + ws false ((bs s).drop m))) (fun e => s.size - (intOf e).toNat)
          case atStart => exact ⟨k, Nat.le_refl _, by omega, rfl, Lib.hid (by simp)⟩
          case round =>
            obtain ⟨m, hkm, hms, rfl, hc⟩ := hrel
            have tail : ws false ((bs s).drop m) = 0 → ws false ((bs s).drop k) = m - k := fun h => by rw [hc.out, h]; omega
            by_cases hm : m < s.size
            · have hm' : m < (bs s).length := by rw [HL.out]; exact hm
              cases hl2 : lowB ((s[m]'hm).toNat : Int)
              · have HL2 := Lib.hid hl2
                clear hl2
                cases hd2 : digB ((s[m]'hm).toNat : Int)
                · have HD2 := Lib.hid hd2
                  have hcnt := tail (ws_stop (bs s) m false hm' (by
                    have lo : low ((bs s)[m]'hm') = false := HL2.out
                    have di : dig ((bs s)[m]'hm') = false := HD2.out
                    simp [lo, di]))
                  clear hd2 tail
                  have hex : s.extract k m = mk (((bs s).drop k).take (m - k)) := extract_cut s k m
                  have HEX := Lib.hid hex
                  clear hex hc
                  by_cases hbig : 12 < (m : Int) - k
                  · have HF := Lib.hid (first_none_name hlt' HLo.out hcnt hbig)
                    clear hcnt
                    go_wp2_with (first | (go_at_call 20; refine (rletter_any _ false HL2.out _).mono ?_; rintro e w' ⟨rfl, rfl⟩) | (go_at_call 21; refine (rdigit_any _ false HD2.out _).mono ?_; rintro e w' ⟨rfl, rfl⟩))
                    go_ret3
                    exact ⟨fin_no (by rw [HL.out]; exact hsm) hR.out.2.2 hlt' HSe.out HF.out, hR.out.2.1⟩
                  · have hsm2 : (m : Int) - k ≤ 12 := by omega
                    have HF := Lib.hid (first_some_name hlt' HLo.out hcnt hsm2)
                    have hj := first_size HF.out
                    have hj1 : k < m := by omega
                    clear hcnt hj hbig
                    go_wp2_with (first | (go_at_call 20; refine (rletter_any _ false HL2.out _).mono ?_; rintro e w' ⟨rfl, rfl⟩) | (go_at_call 21; refine (rdigit_any _ false HD2.out _).mono ?_; rintro e w' ⟨rfl, rfl⟩) | (at_builtin; refine wpList_append_own _ rfl (.tmp 82) (.tmp 89) 38 rfl w.heap.size 44 i0 _ 4 40 Tryd.underlying38 HI.out.1 HI.out.2.1 HI.out.2.2.1 HI.out.2.2.2 rfl (by decide) _ T.length (rows T) rfl (hR.out.1.alloc _) ⟨wo.heap.size, 0, none⟩ 1 1 [.int .i64 1, .int .i64 0, .int .i64 n, .string (s.extract k m)] rfl rfl (by rw [HEX.out]; exact news_cells wo ⟨1, 0, n, ((bs s).drop k).take (m - k)⟩ _) (by rw [HEX.out]; exact cells_one ⟨1, 0, n, ((bs s).drop k).take (m - k)⟩) (by unfold maxLen; omega) (by omega) (by simp; omega) ?_; intro v' w3 hown3 hgrow3 _))
                    have hst := step_ref (t := ⟨1, 0, 0, ((bs s).drop k).take (m - k)⟩) hR.out hwr (Below.refl _ _) hlt' HSe.out HF.out (by rw [HEX.out] at hown3; exact hown3) hgrow3
                    have HST := Lib.hid hst
                    have hw3 : w.heap.size ≤ w3.heap.size := hst.2.1.size
                    clear hst hown3 hgrow3
                    go_roundw
                    case rel => exact ⟨m, n, T ++ [⟨1, 0, n, ((bs s).drop k).take (m - k)⟩], by omega, rfl, rfl, by omega, by simp; omega, hw3, Lib.hid (by have := HST.out; rw [show k + (m - k) = m by omega] at this; exact this)⟩
                    case measure => simp [intOf]; omega
                · have HD2 := Lib.hid hd2
                  have hcn : ws false ((bs s).drop k) = (m + 1 - k) + ws false ((bs s).drop (m + 1)) := by
                    have di : dig ((bs s)[m]'hm') = true := HD2.out
                    rw [hc.out, ws_step (bs s) m false hm' (by simp [di])]; omega
                  have HCN := Lib.hid hcn
                  clear hd2 tail hcn hc
                  go_wp2_with (first | (go_at_call 20; refine (rletter_any _ false HL2.out _).mono ?_; rintro e w' ⟨rfl, rfl⟩) | (go_at_call 21; refine (rdigit_any _ true HD2.out _).mono ?_; rintro e w' ⟨rfl, rfl⟩))
                  go_round
                  case rel => exact ⟨m + 1, by omega, by omega, by go_num, HCN⟩
                  case measure => simp [intOf]; omega
              · have HL2 := Lib.hid hl2
                have hcn : ws false ((bs s).drop k) = (m + 1 - k) + ws false ((bs s).drop (m + 1)) := by
                  have lo : low ((bs s)[m]'hm') = true := HL2.out
                  rw [hc.out, ws_step (bs s) m false hm' (by simp [lo])]; omega
                have HCN := Lib.hid hcn
                clear hl2 tail hcn hc
                go_wp2_with (first | (go_at_call 20; refine (rletter_any _ true HL2.out _).mono ?_; rintro e w' ⟨rfl, rfl⟩))
                go_round
                case rel => exact ⟨m + 1, by omega, by omega, by go_num, HCN⟩
                case measure => simp [intOf]; omega
            · have hcnt := tail (ws_end _ _ _ (by rw [HL.out]; omega))
              have HL2 : Hid (lowB 0 = false) := Lib.hid rfl
              have HD2 : Hid (digB 0 = false) := Lib.hid rfl
              clear tail
              have hex : s.extract k m = mk (((bs s).drop k).take (m - k)) := extract_cut s k m
              have HEX := Lib.hid hex
              clear hex hc
              by_cases hbig : 12 < (m : Int) - k
              · have HF := Lib.hid (first_none_name hlt' HLo.out hcnt hbig)
                clear hcnt
                go_wp2_with (first | (go_at_call 20; refine (rletter_any _ false HL2.out _).mono ?_; rintro e w' ⟨rfl, rfl⟩) | (go_at_call 21; refine (rdigit_any _ false HD2.out _).mono ?_; rintro e w' ⟨rfl, rfl⟩))
                go_ret3
                exact ⟨fin_no (by rw [HL.out]; exact hsm) hR.out.2.2 hlt' HSe.out HF.out, hR.out.2.1⟩
              · have hsm2 : (m : Int) - k ≤ 12 := by omega
                have HF := Lib.hid (first_some_name hlt' HLo.out hcnt hsm2)
                have hj := first_size HF.out
                have hj1 : k < m := by omega
                clear hcnt hj hbig
                go_wp2_with (first | (go_at_call 20; refine (rletter_any _ false HL2.out _).mono ?_; rintro e w' ⟨rfl, rfl⟩) | (go_at_call 21; refine (rdigit_any _ false HD2.out _).mono ?_; rintro e w' ⟨rfl, rfl⟩) | (at_builtin; refine wpList_append_own _ rfl (.tmp 82) (.tmp 89) 38 rfl w.heap.size 44 i0 _ 4 40 Tryd.underlying38 HI.out.1 HI.out.2.1 HI.out.2.2.1 HI.out.2.2.2 rfl (by decide) _ T.length (rows T) rfl (hR.out.1.alloc _) ⟨wo.heap.size, 0, none⟩ 1 1 [.int .i64 1, .int .i64 0, .int .i64 n, .string (s.extract k m)] rfl rfl (by rw [HEX.out]; exact news_cells wo ⟨1, 0, n, ((bs s).drop k).take (m - k)⟩ _) (by rw [HEX.out]; exact cells_one ⟨1, 0, n, ((bs s).drop k).take (m - k)⟩) (by unfold maxLen; omega) (by omega) (by simp; omega) ?_; intro v' w3 hown3 hgrow3 _))
                have hst := step_ref (t := ⟨1, 0, 0, ((bs s).drop k).take (m - k)⟩) hR.out hwr (Below.refl _ _) hlt' HSe.out HF.out (by rw [HEX.out] at hown3; exact hown3) hgrow3
                have HST := Lib.hid hst
                have hw3 : w.heap.size ≤ w3.heap.size := hst.2.1.size
                clear hst hown3 hgrow3
                go_roundw
                case rel => exact ⟨m, n, T ++ [⟨1, 0, n, ((bs s).drop k).take (m - k)⟩], by omega, rfl, rfl, by omega, by simp; omega, hw3, Lib.hid (by have := HST.out; rw [show k + (m - k) = m by omega] at this; exact this)⟩
                case measure => simp [intOf]; omega
      · have HSe := Lib.hid hse
        clear hse
        by_cases h10 : ((s[k]'hlt).toNat : Int) = 10
        · have hb10 : (((s[k]'hlt).toNat : Int) == 10) = true := by simp [h10]
          have HAt := Lib.hid (at_line hR.out.2.2 hlt' (by have : ((bs s)[k]'hlt').toNat = s[k].toNat := rfl; omega))
          clear h10
          go_wp2
          go_roundw
          case rel => exact ⟨k + 1, n + 1, T, by omega, by go_num, by go_num, by omega, by omega, hwr, Lib.hid ⟨hR.out.1, hR.out.2.1, HAt.out⟩⟩
          case measure => simp [intOf]; omega
        · have hb10 : (((s[k]'hlt).toNat : Int) == 10) = false := by simp; omega
          have HAt := Lib.hid (at_sep hR.out.2.2 hlt' (by have : ((bs s)[k]'hlt').toNat = s[k].toNat := rfl; omega) HSe.out)
          have hor : ((s[k]'hlt).toNat : Int) = 32 ∨ ((s[k]'hlt).toNat : Int) = 9 := by
            have := HSe.out
            simp [sepB] at this
            omega
          clear h10
          rcases hor with h | h
          · have hb32 : (((s[k]'hlt).toNat : Int) == 32) = true := by simp [h]
            go_wp2
            go_roundw
            case rel => exact ⟨k + 1, n, T, by omega, by go_num, rfl, by omega, by omega, hwr, Lib.hid ⟨hR.out.1, hR.out.2.1, HAt.out⟩⟩
            case measure => simp [intOf]; omega
          · have hb32 : (((s[k]'hlt).toNat : Int) == 32) = false := by simp [h]
            have hb9 : (((s[k]'hlt).toNat : Int) == 9) = true := by simp [h]
            have n32 : ¬ ((s[k]'hlt).toNat : Int) = 32 := by omega
            clear h
            go_wp2
            go_roundw
            case rel => exact ⟨k + 1, n, T, by omega, by go_num, rfl, by omega, by omega, hwr, Lib.hid ⟨hR.out.1, hR.out.2.1, HAt.out⟩⟩
            case measure => simp [intOf]; omega
    · go_wp2
      go_ret3
      exact ⟨rfin_ok (by rw [HL.out]; exact hsm) hR.out.2.2 (by rw [HL.out]; omega) hR.out.1, hR.out.2.1⟩
end Go.Proofs.YtbppfhlpielpcaaDoor
