/- The set of all signs that package token makes, what it answers for any text; and the sign with which a text begins. -/
import Derived.Test.YtbppfhlpielpcaaDoorTkNumber
namespace Go.Proofs.YtbppfhlpielpcaaDoor
open Go.RowKit Go.Maps Go.WideMaps Go.WideElems Tk
set_option linter.unusedVariables false
set_option maxRecDepth 100000

theorem Tryd.strKey : Keyed Tryd.prog 9 := string_keyed Tryd.underlying9
def mapOf : List (List UInt8) → DataW Unit
  | [] => .map []
  | k :: r => (mapOf r).put (.string k) (.lit (.bool true))
theorem mapOf_isMap : ∀ l, IsMap (mapOf l)
  | [] => ⟨[], rfl⟩
  | k :: r => (mapOf_isMap r).put _ _
theorem mapOf_at (l : List (List UInt8)) (k : List UInt8) : (mapOf l).atKey (.string k) (.lit (.bool false)) = .lit (.bool (l.contains k)) := by
  induction l with
  | nil => rfl
  | cons x r ih =>
    unfold mapOf
    by_cases h : k = x
    · subst h
      rw [atKey_put_same (mapOf_isMap r) (by trivial)]
      simp
    · rw [atKey_put_other (by intro e; injection e with e; exact h e), ih]
      simp [h]
abbrev Signed (w : World) (b n : Nat) (l : List (List UInt8)) : Prop := w.ownsMap Tryd.prog 9 (plainElem (H := Unit) Tryd.prog 4) b n (mapOf l)
theorem zero_bool (w : World) : (zeroValue 4).run Tryd.prog w = .ok (.bool false) w := by kernel_rfl
theorem put_step {w w0 : World} {b n : Nat} {l : List (List UInt8)} (h : Signed w0 b n l) (hb : Below b w w0) (hn : n < 100) (s : ByteArray) (hs : s.size ≤ 100) :
    ∃ w1, (Instr.mapUpdate 50 (.map (some b)) (.string s) (.bool true)).run Tryd.prog w0 = .ok () w1 ∧ Signed w1 b (n + 1) (bs s :: l) ∧ Below b w w1 := by
  have hlt := h.lt
  obtain ⟨w1, hr, ho, hg⟩ := World.ownsMap.update (t := 50) (e := 4) h Tryd.strKey Tryd.underlying50 (by unfold maxLen; omega) (keyOf_string_mk (s := s) Tryd.underlying9 (by unfold maxLen; omega)) (plainElem_bool (H := Unit) Tryd.underlying4 true)
  exact ⟨w1, hr, ho, hb.grown hg (by omega) (fun k hk => by cases hk; exact Nat.le_refl _)⟩
set_option maxRecDepth 100000 in
theorem plain_bool_inv {v : Value} {z : DataW Unit × List MemPlace} (h : plainElem (H := Unit) Tryd.prog 4 v = some z) : ∃ x : Bool, v = .bool x ∧ z = (.lit (.bool x), []) := by
  unfold plainElem at h
  rw [Tryd.underlying4] at h
  cases v <;> simp at h
  exact ⟨_, rfl, h.symm⟩
theorem look_bool {w : World} {b n : Nat} {l : List (List UInt8)} (h : Signed w b n l) (s : ByteArray) (hs : s.size ≤ maxLen) :
    (Instr.lookup 50 (.map (some b)) (.string s) false).run Tryd.prog w = .ok (.bool (l.contains (bs s))) w := by
  obtain ⟨v, ps, hrun, hv⟩ := World.ownsMap.lookup (t := 50) (e := 4) h Tryd.strKey Tryd.underlying50 (zero_bool w) (plainElem_bool (H := Unit) Tryd.underlying4 false) (keyOf_string_mk Tryd.underlying9 hs)
  obtain ⟨x, rfl, hz⟩ := plain_bool_inv hv
  simp only [Prod.mk.injEq] at hz
  have e := mapOf_at l (bs s)
  have e2 := hz.1
  rw [show (Lit.string s.data.toList) = Lit.string (bs s) from rfl, e] at e2
  injection e2 with e2
  injection e2 with e2
  rw [hrun, e2]
theorem look_wp {w : World} {ops : Array Oper} {rest : List Oper} {o : Oper} {a : Act} {Q : Exit → Act → World → Prop} (hg : o.guard = none) (m x : Operand) (hop : o.op = Op.lookup 50 m x false)
    {b n : Nat} {l : List (List UInt8)} (hm : a.eval m = .map (some b)) (h : Signed w b n l) (s : ByteArray) (hs : s.size ≤ maxLen) (hx : a.eval x = .string s) (c : Bool) (hc : l.contains (bs s) = c)
    (hK : wpList Tryd.prog ops Q rest (a.put o.dst (.bool c)) w) : wpList Tryd.prog ops Q (o :: rest) a w := by
  refine wpList_plain hg fun K' hK' => ?_
  have hrun := look_bool h s hs
  rw [hc] at hrun
  unfold Oper.wp
  simp [execOp, hop, hm, hx, hrun, Result.andThen]
  exact hK' _ _ hK

def known : List (List UInt8) := [[125], [123], [93], [91], [41], [40], [61], [33, 61], [61, 61], [60, 61], [60], [62, 62], [60, 60], [94], [124], [38], [37], [47], [42], [45], [43]]
theorem known_same (l : List UInt8) : known.contains l = isSign l := by
  unfold isSign
  rw [Bool.eq_iff_iff, List.contains_iff_mem, List.contains_iff_mem]
  constructor
  · intro h
    exact (show ∀ x ∈ known, x ∈ Tk.signs by decide +kernel) l h
  · intro h
    exact (show ∀ x ∈ Tk.signs, x ∈ known by decide +kernel) l h
set_option maxHeartbeats 2000000 in
theorem signs_any (w : World) : Calls Tryd.prog 17 #[] w fun e w' => e = .returned (.map (some w.heap.size)) ∧ Signed w' w.heap.size 21 known ∧ Below w.heap.size w w' := by
  have hmm := @run_makeMap Tryd.prog
  have h0 : Signed (w.alloc (.map #[] 0)) w.heap.size 0 [] := World.ownsMap_made _ _ _ _
  have b0 : Below w.heap.size w (w.alloc (.map #[] 0)) := (Below.refl _ w).alloc (Nat.le_refl _) _
  obtain ⟨w1, r1, h1, b1⟩ := put_step h0 b0 (by omega) ⟨#[43]⟩ (by decide)
  clear h0 b0
  obtain ⟨w2, r2, h2, b2⟩ := put_step h1 b1 (by omega) ⟨#[45]⟩ (by decide)
  clear h1 b1
  obtain ⟨w3, r3, h3, b3⟩ := put_step h2 b2 (by omega) ⟨#[42]⟩ (by decide)
  clear h2 b2
  obtain ⟨w4, r4, h4, b4⟩ := put_step h3 b3 (by omega) ⟨#[47]⟩ (by decide)
  clear h3 b3
  obtain ⟨w5, r5, h5, b5⟩ := put_step h4 b4 (by omega) ⟨#[37]⟩ (by decide)
  clear h4 b4
  obtain ⟨w6, r6, h6, b6⟩ := put_step h5 b5 (by omega) ⟨#[38]⟩ (by decide)
  clear h5 b5
  obtain ⟨w7, r7, h7, b7⟩ := put_step h6 b6 (by omega) ⟨#[124]⟩ (by decide)
  clear h6 b6
  obtain ⟨w8, r8, h8, b8⟩ := put_step h7 b7 (by omega) ⟨#[94]⟩ (by decide)
  clear h7 b7
  obtain ⟨w9, r9, h9, b9⟩ := put_step h8 b8 (by omega) ⟨#[60, 60]⟩ (by decide)
  clear h8 b8
  obtain ⟨w10, r10, h10, b10⟩ := put_step h9 b9 (by omega) ⟨#[62, 62]⟩ (by decide)
  clear h9 b9
  obtain ⟨w11, r11, h11, b11⟩ := put_step h10 b10 (by omega) ⟨#[60]⟩ (by decide)
  clear h10 b10
  obtain ⟨w12, r12, h12, b12⟩ := put_step h11 b11 (by omega) ⟨#[60, 61]⟩ (by decide)
  clear h11 b11
  obtain ⟨w13, r13, h13, b13⟩ := put_step h12 b12 (by omega) ⟨#[61, 61]⟩ (by decide)
  clear h12 b12
  obtain ⟨w14, r14, h14, b14⟩ := put_step h13 b13 (by omega) ⟨#[33, 61]⟩ (by decide)
  clear h13 b13
  obtain ⟨w15, r15, h15, b15⟩ := put_step h14 b14 (by omega) ⟨#[61]⟩ (by decide)
  clear h14 b14
  obtain ⟨w16, r16, h16, b16⟩ := put_step h15 b15 (by omega) ⟨#[40]⟩ (by decide)
  clear h15 b15
  obtain ⟨w17, r17, h17, b17⟩ := put_step h16 b16 (by omega) ⟨#[41]⟩ (by decide)
  clear h16 b16
  obtain ⟨w18, r18, h18, b18⟩ := put_step h17 b17 (by omega) ⟨#[91]⟩ (by decide)
  clear h17 b17
  obtain ⟨w19, r19, h19, b19⟩ := put_step h18 b18 (by omega) ⟨#[93]⟩ (by decide)
  clear h18 b18
  obtain ⟨w20, r20, h20, b20⟩ := put_step h19 b19 (by omega) ⟨#[123]⟩ (by decide)
  clear h19 b19
  obtain ⟨w21, r21, h21, b21⟩ := put_step h20 b20 (by omega) ⟨#[125]⟩ (by decide)
  clear h20 b20
  have H := Lib.hid h21
  have B := Lib.hid b21
  clear h21 b21
  go_enter Tryd.func17, Tryd.ntmps17
  go_wp2
  go_ret
  exact ⟨rfl, H.out, B.out⟩

/-! ### A sign -/
def sgnTo : Nat → List UInt8 → Nat
  | 0, _ => 0
  | k + 1, l => if isSign (l.take (k + 1)) = true then k + 1 else sgnTo k l
theorem sgn_to (l : List UInt8) (h : 0 < l.length) : sgn l = sgnTo (min 2 l.length) l := by
  unfold sgn
  by_cases h2 : 2 ≤ l.length
  · rw [Nat.min_eq_left h2]
    simp only [sgnTo]
    by_cases a : isSign (l.take 2) = true
    · rw [if_pos ⟨h2, a⟩, if_pos a]
    · rw [if_neg (fun c => a c.2), if_neg a]
  · have e : l.length = 1 := by omega
    rw [e, if_neg (by omega)]
    rfl
theorem first_sign (l : List UInt8) (h : 0 < l.length) (hl : low l[0] = false) (hd : dig l[0] = false) :
    first l = if sgn l = 0 then none else some (⟨3, 0, 0, l.take (sgn l)⟩, sgn l) := by
  match l, h, hl, hd with
  | c :: r, _, hl, hd =>
    have hl : low c = false := hl
    have hd : dig c = false := hd
    unfold first
    simp only
    rw [if_neg (by simp [hl]), if_neg (by simp [hd])]
set_option maxHeartbeats 800000 in
theorem firstSign_any (s : ByteArray) (hs : s.size ≤ 281474976710656) (h0 : 0 < s.size) (hl : lowB ((s[0]'h0).toNat : Int) = false) (hd : digB ((s[0]'h0).toNat : Int) = false) (b : Nat) (w : World) (hm : Signed w b 21 known) :
    Calls Tryd.prog 36 #[.string s, .map (some b)] w fun e w' => e = .returned (firstV (first (bs s))) ∧ Below w.heap.size w w' := by
  have h0' : 0 < (bs s).length := by rw [bs_len]; exact h0
  have hF := first_sign (bs s) h0' hl hd
  rw [sgn_to _ h0', bs_len] at hF
  have HF := Lib.hid hF
  have HM := Lib.hid (hm.alloc (.cells #[.int .i64 0, .int .i64 0, .int .i64 0, .string ⟨#[]⟩] 44))
  clear hl hd h0' hF hm
  obtain ⟨z, hz, hzs⟩ : ∃ z : Nat, min 2 s.size = z ∧ z ≤ s.size ∧ z ≤ 2 := ⟨min 2 s.size, rfl, by omega, by omega⟩
  have hmin : min (2 : Int) (s.size : Int) = z := by omega
  have HZ := Lib.hid hz
  clear hz
  go_enter Tryd.func36, Tryd.ntmps36
  go_wp2
  go_loop [6] (fun i => ∃ k : Nat, k ≤ s.size ∧ k ≤ 2 ∧ i = .int .i64 k ∧ Hid (sgnTo (min 2 s.size) (bs s) = sgnTo k (bs s))) (fun i => (intOf i).toNat)
  case atStart => exact ⟨z, hzs.1, hzs.2, rfl, Lib.hid (by rw [HZ.out])⟩
  case round =>
    clear hmin hzs HZ
    obtain ⟨k, hk, hk2, rfl, hg⟩ := hrel
    cases k with
    | zero =>
      have hx : first (bs s) = none := by rw [HF.out, hg.out]; exact if_pos rfl
      have HX := Lib.hid hx
      clear hx
      go_wp2
      refine bodyPost_ret (v := firstV (first (bs s))) ?_ rfl ⟨rfl, (Below.refl _ w).alloc (Nat.le_refl _) _⟩
      rw [HX.out]
      simp [results, Tryd.results36, go_sem, firstV, aggV, zeroTok]
      rfl
    | succ j =>
      have e1 : s.extract 0 (j + 1) = mk ((bs s).take (j + 1)) := extract_mk s (j + 1)
      have hsz : (s.extract 0 (j + 1)).size ≤ s.size := by rw [e1, mk_size, List.length_take, bs_len]; omega
      cases hc : isSign ((bs s).take (j + 1))
      · have hlook : known.contains (bs (s.extract 0 (j + 1))) = false := by rw [known_same, bs_upto]; exact hc
        have HK := Lib.hid hlook
        have HN : Hid (sgnTo (min 2 s.size) (bs s) = sgnTo j (bs s)) := Lib.hid (by rw [hg.out, sgnTo, if_neg (by simp [hc])])
        clear hc hlook e1 hg
        go_wp2_with (at_lookup; refine look_wp rfl (.tmp 14) (.tmp 17) rfl rfl HM.out (s.extract 0 (j + 1)) (by unfold maxLen; omega) rfl false HK.out ?_)
        go_round
        case rel => exact ⟨j, by omega, by omega, by go_num, HN⟩
        case measure => simp [intOf]
      · have hlook : known.contains (bs (s.extract 0 (j + 1))) = true := by rw [known_same, bs_upto]; exact hc
        have HK := Lib.hid hlook
        have hx : first (bs s) = some (⟨3, 0, 0, (bs s).take (j + 1)⟩, j + 1) := by
          have e2 : sgnTo (j + 1) (bs s) = j + 1 := by rw [sgnTo, if_pos hc]
          rw [HF.out, hg.out, e2, if_neg (by omega)]
        have HX := Lib.hid hx
        have HE := Lib.hid e1
        clear hc hlook e1 hg hx
        go_wp2_with (at_lookup; refine look_wp rfl (.tmp 14) (.tmp 17) rfl rfl HM.out (s.extract 0 (j + 1)) (by unfold maxLen; omega) rfl true HK.out ?_)
        refine (worded_any 3 (s.extract 0 (j + 1)) (by omega) _).mono ?_
        rintro e w1 ⟨rfl, hb⟩
        have hb0 := below_in hb
        obtain ⟨hc, hf⟩ := bcell hb
        simp only [size_alloc] at hc hf
        have hz1 : w.heap.size + 1 ≤ w1.heap.size := by have := hb.size; simpa using this
        clear hb
        unfold aggV
        go_wp2
        refine bodyPost_ret (v := firstV (first (bs s))) ?_ rfl ⟨rfl, below_set4 hb0 (Nat.le_refl _) _ _ _ _⟩
        rw [HX.out]
        have hm : mk (bs (s.extract 0 (j + 1))) = mk ((bs s).take (j + 1)) := by rw [mk_bs, HE.out]
        simp [results, Tryd.results36, go_sem, firstV, aggV, hc, hm]

/-- first, for every text that is not empty. -/
theorem first_any (s : ByteArray) (hs : s.size ≤ 281474976710656) (h0 : 0 < s.size) (b : Nat) (w : World) (hm : Signed w b 21 known) :
    Calls Tryd.prog 19 #[.string s, .map (some b)] w fun e w' => e = .returned (firstV (first (bs s))) ∧ Below w.heap.size w w' := by
  have HM := Lib.hid (hm.alloc (.cells #[.int .i64 0, .int .i64 0, .int .i64 0, .string ⟨#[]⟩] 44))
  clear hm
  have hz' : ∀ (c : Value), aggV ⟨0, 0, 0, []⟩ = c → True := fun _ _ => trivial
  clear hz'
  cases hlo : lowB ((s[0]'h0).toNat : Int)
  · have HLo := Lib.hid hlo
    clear hlo
    cases hdi : digB ((s[0]'h0).toNat : Int)
    · have HDi := Lib.hid hdi
      clear hdi
      go_enter Tryd.func19, Tryd.ntmps19
      go_wp2_with (first | (go_at_call 32; refine (letter_any _ false HLo.out _).mono ?_; rintro e w' ⟨rfl, rfl⟩) | (go_at_call 34; refine (digit_any _ false HDi.out _).mono ?_; rintro e w' ⟨rfl, rfl⟩))
      refine (firstSign_any s hs h0 HLo.out HDi.out b _ HM.out).mono ?_
      rintro e w1 ⟨rfl, hb⟩
      have hb0 := below_in hb
      obtain ⟨hc, hf⟩ := bcell hb
      simp only [size_alloc] at hc hf
      have hz1 : w.heap.size + 1 ≤ w1.heap.size := by have := hb.size; simpa using this
      clear hb
      cases hfi : first (bs s) with
      | none =>
        have HFI := Lib.hid hfi
        clear hfi
        unfold firstV aggV zeroTok
        go_wp2
        refine bodyPost_ret (v := firstV none) ?_ rfl ⟨by rw [HFI.out], below_set4 hb0 (Nat.le_refl _) _ _ _ _⟩
        simp [results, Tryd.results19, go_sem, firstV, aggV, zeroTok, hc]
      | some r =>
        obtain ⟨t, k⟩ := r
        have HFI := Lib.hid hfi
        clear hfi
        unfold firstV aggV
        go_wp2
        refine bodyPost_ret (v := firstV (some (t, k))) ?_ rfl ⟨by rw [HFI.out], below_set4 hb0 (Nat.le_refl _) _ _ _ _⟩
        simp [results, Tryd.results19, go_sem, firstV, aggV, hc]
    · have HDi := Lib.hid hdi
      clear hdi
      go_enter Tryd.func19, Tryd.ntmps19
      go_wp2_with (first | (go_at_call 32; refine (letter_any _ false HLo.out _).mono ?_; rintro e w' ⟨rfl, rfl⟩) | (go_at_call 34; refine (digit_any _ true HDi.out _).mono ?_; rintro e w' ⟨rfl, rfl⟩))
      refine (firstNumber_any s hs h0 HLo.out HDi.out _).mono ?_
      rintro e w1 ⟨rfl, hb⟩
      have hb0 := below_in hb
      obtain ⟨hc, hf⟩ := bcell hb
      simp only [size_alloc] at hc hf
      have hz1 : w.heap.size + 1 ≤ w1.heap.size := by have := hb.size; simpa using this
      clear hb
      cases hfi : first (bs s) with
      | none =>
        have HFI := Lib.hid hfi
        clear hfi
        unfold firstV aggV zeroTok
        go_wp2
        refine bodyPost_ret (v := firstV none) ?_ rfl ⟨by rw [HFI.out], below_set4 hb0 (Nat.le_refl _) _ _ _ _⟩
        simp [results, Tryd.results19, go_sem, firstV, aggV, zeroTok, hc]
      | some r =>
        obtain ⟨t, k⟩ := r
        have HFI := Lib.hid hfi
        clear hfi
        unfold firstV aggV
        go_wp2
        refine bodyPost_ret (v := firstV (some (t, k))) ?_ rfl ⟨by rw [HFI.out], below_set4 hb0 (Nat.le_refl _) _ _ _ _⟩
        simp [results, Tryd.results19, go_sem, firstV, aggV, hc]
  · have HLo := Lib.hid hlo
    clear hlo
    go_enter Tryd.func19, Tryd.ntmps19
    go_wp2_with (first | (go_at_call 32; refine (letter_any _ true HLo.out _).mono ?_; rintro e w' ⟨rfl, rfl⟩))
    refine (firstName_any s hs h0 HLo.out _).mono ?_
    rintro e w1 ⟨rfl, hb⟩
    have hb0 := below_in hb
    obtain ⟨hc, hf⟩ := bcell hb
    simp only [size_alloc] at hc hf
    have hz1 : w.heap.size + 1 ≤ w1.heap.size := by have := hb.size; simpa using this
    clear hb
    cases hfi : first (bs s) with
    | none =>
      have HFI := Lib.hid hfi
      clear hfi
      unfold firstV aggV zeroTok
      go_wp2
      refine bodyPost_ret (v := firstV none) ?_ rfl ⟨by rw [HFI.out], below_set4 hb0 (Nat.le_refl _) _ _ _ _⟩
      simp [results, Tryd.results19, go_sem, firstV, aggV, zeroTok, hc]
    | some r =>
      obtain ⟨t, k⟩ := r
      have HFI := Lib.hid hfi
      clear hfi
      unfold firstV aggV
      go_wp2
      refine bodyPost_ret (v := firstV (some (t, k))) ?_ rfl ⟨by rw [HFI.out], below_set4 hb0 (Nat.le_refl _) _ _ _ _⟩
      simp [results, Tryd.results19, go_sem, firstV, aggV, hc]
end Go.Proofs.YtbppfhlpielpcaaDoor
