/- Levels of expressions: deep, every. -/
import Derived.Test.YtaabhlkhddkglaaDoorPrBelowW
namespace Go.Proofs.YtaabhlkhddkglaaDoor
open Go.RowKit
set_option linter.unusedVariables false
set_option linter.unusedSimpArgs false
attribute [local go_sem] y_undef
/-- Levels of bounded size. -/
def Sm (L : List Exs) : Prop := L.length ≤ maxLen ∧ Exs.sizes L ≤ 1000000 ∧ ∀ t ∈ L, t.len ≤ maxLen
theorem sizes_mem {t : Exs} : ∀ {F : List Exs}, t ∈ F → t.size ≤ Exs.sizes F
  | [], h => by simp at h
  | u :: F, h => by
    rcases List.mem_cons.1 h with rfl | h
    · simp [Exs.sizes]
    · have := sizes_mem h
      simp only [Exs.sizes, List.map_cons, List.sum_cons] at this ⊢
      omega
theorem Sm.found {L F : List Exs} (h : Sm L) (hf : Exs.Found L F) : Sm F := by
  have h1 := hf.sizes
  have h2 := Exs.count_sizes hf.2.1
  have h3 := h.2.1
  refine ⟨by unfold maxLen; omega, by omega, fun t ht => ?_⟩
  have h4 := sizes_mem ht
  have h5 := Exs.len_size t
  unfold maxLen
  omega
set_option maxRecDepth 100000 in
set_option maxHeartbeats 1000000 in
theorem deep_any (L : List Exs) (v : Value) (w : World) (hL : Lv w v L) (hS : Sm L) :
    Calls Tryd.prog 10 #[v] w fun e u => (∃ b : Bool, e = .returned (.bool b) ∧ (b = true ↔ Exs.Dp 8 L)) ∧ Below w.heap.size w u := by
  have HL := Lib.hid hL
  have HS := Lib.hid hS
  clear hL hS
  go_enter Tryd.func10, Tryd.ntmps10
  go_wp2
  go_loopw [0, 3] (fun x i wr => ∃ (k : Nat) (F : List Exs), k ≤ 8 ∧ i = .int .i64 k ∧ Hid (Lv wr x F ∧ Sm F ∧ (∀ h, Exs.Dp h F ↔ Exs.Dp (h + k) L) ∧ (0 < k → (0 < F.length ↔ Exs.Dp 0 F)) ∧ Below w.heap.size w wr)) (fun _ i _ => 8 - (intOf i).toNat)
  case atStart => exact ⟨0, L, by omega, rfl, Lib.hid ⟨HL.out, HS.out, fun h => Iff.rfl, by simp, Below.refl _ _⟩⟩
  case round =>
    clear HL HS
    obtain ⟨k, F, hk, rfl, HK⟩ := hrel
    by_cases hlt : k < 8
    · have hlt' : (k : Int) < 8 := by omega
      go_wp2_with fail
      refine (below_any F _ _ HK.out.1 HK.out.2.1.1 HK.out.2.1.2.1 HK.out.2.1.2.2).mono ?_
      rintro e w2 ⟨y, G, rfl, hf, hv, hb⟩
      have HR := Lib.hid (show Lv w2 y G ∧ Sm G ∧ (∀ h, Exs.Dp h G ↔ Exs.Dp (h + (k + 1)) L) ∧ (0 < k + 1 → (0 < G.length ↔ Exs.Dp 0 G)) ∧ Below w.heap.size w w2 from
        ⟨hv, HK.out.2.1.found hf, fun h => by rw [hf.dp, HK.out.2.2.1, show h + 1 + k = h + (k + 1) by omega], fun _ => hf.dp0, HK.out.2.2.2.2.trans (hb.mono HK.out.2.2.2.2.size)⟩)
      clear HK hf hv hb
      go_wp2_with fail
      go_roundw
      case rel => exact ⟨k + 1, G, by omega, by go_num, HR⟩
      case measure => simp [intOf]; omega
    · have hk8 : k = 8 := by omega
      subst hk8
      obtain ⟨A, c, rfl, hc, _⟩ := HK.out.1
      obtain ⟨n, hn⟩ : ∃ n, F.length = n := ⟨_, rfl⟩
      have HN := Lib.hid hn
      have hn1 : n ≤ 9223372036854775807 := by
        have := HK.out.2.1.1
        unfold maxLen at this
        omega
      rw [hn]
      clear hn hc
      go_wp2
      go_ret
      refine ⟨⟨_, rfl, ?_⟩, HK.out.2.2.2.2⟩
      have h1 := HK.out.2.2.2.1 (by omega)
      have h2 := HK.out.2.2.1 0
      rw [HN.out] at h1
      rw [show 0 + 8 = 8 from rfl] at h2
      rw [← h2, ← h1]
      simp
/-- What every asks of each item: a function of it. -/
def Asks (q : Int → Int → ByteArray → Int → Nat → Bool) : Prop :=
  ∀ (k n o : Int) (s : ByteArray) (a : Exs) (A : Option Addr) (c : Nat) (u : World), (Exs.cons k n s o a .nil).Wf →
    Calls Tryd.prog 19 #[.agg #[.int .i64 k, .int .i64 n, .string s, .int .i64 o, .slice A a.len c]] u fun e u' => e = .returned (.bool (q k n s o a.len)) ∧ Below u.heap.size u u'
theorem Exs.all1_drop (q : Int → Int → ByteArray → Int → Nat → Bool) : ∀ (t : Exs) (i : Nat), i < t.len → (∀ j < i, ∀ k n s o a r, t.drop j = .cons k n s o a r → q k n s o a.len = true) → t.all1 q = (t.drop i).all1 q
  | .nil, _, h, _ => by simp [Exs.len] at h
  | .cons .., 0, _, _ => by rw [Exs.drop_zero]
  | .cons k n s o a r, i + 1, h, hq => by
    have h0 := hq 0 (by omega) k n s o a r (by rw [Exs.drop_zero])
    have := Exs.all1_drop q r i (by simpa [Exs.len] using h) fun j hj k n s o a r hd => hq (j + 1) (by omega) k n s o a r hd
    simp only [Exs.all1, h0, Bool.true_and, Exs.drop]
    exact this
theorem Exs.all1_of (q : Int → Int → ByteArray → Int → Nat → Bool) : ∀ (t : Exs), (∀ j < t.len, ∀ k n s o a r, t.drop j = .cons k n s o a r → q k n s o a.len = true) → t.all1 q = true
  | .nil, _ => rfl
  | .cons k n s o a r, hq => by
    have h0 := hq 0 (by simp [Exs.len]) k n s o a r (by rw [Exs.drop_zero])
    have := Exs.all1_of q r fun j hj k n s o a r hd => hq (j + 1) (by simp [Exs.len]; omega) k n s o a r hd
    simp [Exs.all1, h0, this]
theorem Exs.all1_not (q : Int → Int → ByteArray → Int → Nat → Bool) : ∀ (t : Exs) (j : Nat) {k n : Int} {s : ByteArray} {o : Int} {a r : Exs}, t.drop j = .cons k n s o a r → q k n s o a.len = false → t.all1 q = false
  | .nil, 0, _, _, _, _, _, _, h, _ => by cases h
  | .nil, _ + 1, _, _, _, _, _, _, h, _ => by cases h
  | .cons .., 0, _, _, _, _, _, _, h, hq => by
    rw [Exs.drop_zero] at h
    cases h
    simp [Exs.all1, hq]
  | .cons _ _ _ _ _ r, j + 1, _, _, _, _, _, _, h, hq => by simp [Exs.all1, Exs.all1_not q r j h hq]
set_option maxRecDepth 100000 in
set_option maxHeartbeats 2000000 in
theorem every_any (q : Int → Int → ByteArray → Int → Nat → Bool) (L : List Exs) (v : Value) (w : World) (hL : Lv w v L) (hS : Sm L) (hA : Asks q) :
    Calls Tryd.prog 18 #[.func (.func 19) #[] #[], v] w fun e u => (∃ b : Bool, e = .returned (.bool b) ∧ (b = true ↔ ∀ t ∈ L, t.all1 q = true)) ∧ Below w.heap.size w u := by
  obtain ⟨A, c, rfl, hc, ho⟩ := hL
  have HO := Lib.hid ho
  have HS := Lib.hid hS
  have HAs := Lib.hid hA
  obtain ⟨n, hne⟩ : ∃ n, L.length = n := ⟨_, rfl⟩
  have HN := Lib.hid hne
  have hn := hS.1
  rw [hne] at hn hc
  rw [hne]
  unfold maxLen at hn
  clear ho hS hne hA
  go_enter Tryd.func18, Tryd.ntmps18
  go_wp2
  go_loopw [11] (fun i wr => ∃ (k : Nat), k ≤ n ∧ i = .int .i64 k ∧ Hid ((∀ t ∈ L.take k, t.all1 q = true) ∧ Below w.heap.size w wr)) (fun i _ => n - (intOf i).toNat)
  case atStart => exact ⟨0, Nat.zero_le _, rfl, Lib.hid ⟨by simp, Below.refl _ _⟩⟩
  case round =>
    obtain ⟨k, hk, rfl, HK⟩ := hrel
    by_cases hlt : k < n
    · have hlt' : (k : Int) < n := by omega
      obtain ⟨t, ht⟩ : ∃ t, L[k]? = some t := ⟨_, List.getElem?_eq_getElem (by have := HN.out; omega)⟩
      obtain ⟨b, off, u, rfl, hbl, hcl, B, cB, rfl, hcB, hat, hwf⟩ := HO.out k t ht
      have HA := Lib.hid (And.intro hat hwf)
      have HM := Lib.hid (List.mem_of_getElem? ht)
      have HT := Lib.hid (show L.take (k + 1) = L.take k ++ [t] by rw [List.take_add_one, ht]; rfl)
      have hcl2 := (HK.out.2.cell (p := ⟨b, off + k, none⟩) hbl).trans hcl
      have htl := HS.out.2.2 t (List.mem_of_getElem? ht)
      obtain ⟨l, hle⟩ : ∃ l, t.len = l := ⟨_, rfl⟩
      have HL := Lib.hid hle
      rw [hle] at hcl2 htl hcB
      unfold maxLen at htl
      have HK2 := Lib.hid HK.out.2
      clear hcl hat hwf ht hle
      go_wp2_with fail
      go_loopw [17] (fun i wr => ∃ (j : Nat), j ≤ l ∧ i = .int .i64 j ∧ Hid ((∀ p < j, ∀ k n s o a r, t.drop p = .cons k n s o a r → q k n s o a.len = true) ∧ Below w.heap.size w wr)) (fun i _ => l - (intOf i).toNat)
      case atStart => exact ⟨0, Nat.zero_le _, rfl, Lib.hid ⟨by simp, HK2.out⟩⟩
      case round =>
        clear HK2 hcl2 hbl
        obtain ⟨j, hj, rfl, HJ⟩ := hrel
        by_cases hlj : j < l
        · have hlj' : (j : Int) < l := by omega
          obtain ⟨b2, f2, k2, n2, s2, o2, a2, B2, c2, hA2, hbl2, hdr, ⟨e0, e1, e2, e3, e4⟩, hc2, hat2⟩ := at_elem HA.out.1 (by rw [HL.out]; exact hlj)
          have hb := HJ.out.2
          have g0 := (hb.cell (p := ⟨b2, f2 + j * 5, none⟩) hbl2).trans e0
          have g1 := (hb.cell (p := ⟨b2, f2 + j * 5 + 1, none⟩) hbl2).trans e1
          have g2 := (hb.cell (p := ⟨b2, f2 + j * 5 + 2, none⟩) hbl2).trans e2
          have g3 := (hb.cell (p := ⟨b2, f2 + j * 5 + 3, none⟩) hbl2).trans e3
          have g4 := (hb.cell (p := ⟨b2, f2 + j * 5 + 4, none⟩) hbl2).trans e4
          subst hA2
          have hwf2 := HA.out.2.drop j
          rw [hdr] at hwf2
          have HD := Lib.hid hdr
          have hb1 := hb.alloc hb.size (.cells #[.int .i64 k2, .int .i64 n2, .string s2, .int .i64 o2, .slice B2 a2.len c2] 26)
          have hcall := HAs.out k2 n2 o2 s2 a2 B2 c2 (wr.alloc (.cells #[.int .i64 k2, .int .i64 n2, .string s2, .int .i64 o2, .slice B2 a2.len c2] 26)) ⟨hwf2.1, hwf2.2.1, hwf2.2.2.1, hwf2.2.2.2.1, hwf2.2.2.2.2.1, hwf2.2.2.2.2.2.1, trivial⟩
          have HC := Lib.hid hcall
          have HB1 := Lib.hid hb1
          clear e0 e1 e2 e3 e4 hb hwf2 hdr hat2 hc2 hb1 hcall
          obtain ⟨x, hx⟩ : ∃ x, q k2 n2 s2 o2 a2.len = x := ⟨_, rfl⟩
          have HX := Lib.hid hx
          rw [hx] at HC
          clear hx
          go_wp2_with fail
          refine HC.out.mono ?_
          rintro e w2 ⟨rfl, hb2⟩
          have HB2 := Lib.hid (HB1.out.trans (hb2.mono HB1.out.size))
          clear hb2 HB1 HC g0 g1 g2 g3 g4
          cases x
          · have HR := Lib.hid (Exs.all1_not q t j HD.out HX.out)
            go_wp2_with fail
            go_ret
            exact ⟨⟨false, rfl, by simp only [Bool.false_eq_true, false_iff]; exact fun h => by have := h t HM.out; rw [HR.out] at this; cases this⟩, HB2.out⟩
          · have HR := Lib.hid (show ∀ p < j + 1, ∀ k n s o a r, t.drop p = .cons k n s o a r → q k n s o a.len = true from fun p hp k n s o a r hd => by
              by_cases hpj : p < j
              · exact HJ.out.1 p hpj k n s o a r hd
              · have : p = j := by omega
                subst this
                have e := HD.out.symm.trans hd
                cases e
                exact HX.out)
            go_wp2_with fail
            go_roundw
            case rel => exact ⟨j + 1, by omega, by go_num, Lib.hid ⟨HR.out, HB2.out⟩⟩
            case measure => simp [intOf]; omega
        · have HR := Lib.hid (show (∀ t ∈ L.take (k + 1), t.all1 q = true) ∧ Below w.heap.size w wr from ⟨fun x hx => by
            rw [HT.out] at hx
            rcases List.mem_append.1 hx with h | h
            · exact HK.out.1 x h
            · obtain rfl : x = t := by simpa using h
              exact Exs.all1_of q x fun p hp => HJ.out.1 p (by have := HL.out; omega), HJ.out.2⟩)
          clear HJ
          go_wp2_with fail
          go_roundw
          case rel => exact ⟨k + 1, by omega, by go_num, HR⟩
          case measure => simp [intOf]; omega
    · have e1 : L.take k = L := List.take_of_length_le (by have := HN.out; omega)
      have h := HK.out
      rw [e1] at h
      have HR := Lib.hid h
      clear h e1 HK
      go_wp2
      go_ret
      exact ⟨⟨true, rfl, by simpa using HR.out.1⟩, HR.out.2⟩
set_option maxRecDepth 100000 in
set_option maxHeartbeats 2000000 in
theorem pexprs_any (q : Int → Int → ByteArray → Int → Nat → Bool) (L : List Exs) (v : Value) (w : World) (hL : Lv w v L) (hS : Sm L) (hA : Asks q) :
    Calls Tryd.prog 11 #[v] w fun e u => (∃ b : Bool, e = .returned (.bool b) ∧ (b = true ↔ ∀ t ∈ L, t.allTo q 20 = true)) ∧ Below w.heap.size w u := by
  have HL := Lib.hid hL
  have HS := Lib.hid hS
  have HA := Lib.hid hA
  clear hL hS hA
  go_enter Tryd.func11, Tryd.ntmps11
  go_wp2
  go_loopw [0, 3] (fun x i wr => ∃ (k : Nat) (F : List Exs), k ≤ 20 ∧ i = .int .i64 k ∧ Hid (Lv wr x F ∧ Sm F ∧ ((∀ t ∈ L, t.allTo q 20 = true) ↔ ∀ t ∈ F, t.allTo q (20 - k) = true) ∧ Below w.heap.size w wr)) (fun _ i _ => 20 - (intOf i).toNat)
  case atStart => exact ⟨0, L, by omega, rfl, Lib.hid ⟨HL.out, HS.out, Iff.rfl, Below.refl _ _⟩⟩
  case round =>
    clear HL HS
    obtain ⟨k, F, hk, rfl, HK⟩ := hrel
    by_cases hlt : k < 20
    · have hlt' : (k : Int) < 20 := by omega
      go_wp2_with fail
      refine (every_any q F _ _ HK.out.1 HK.out.2.1 HA.out).mono ?_
      rintro e w1 ⟨⟨b, rfl, hbe⟩, hb1⟩
      have HBE := Lib.hid hbe
      have HB1 := Lib.hid hb1
      clear hbe hb1
      have hkk : 20 - k = (20 - (k + 1)) + 1 := by omega
      have HKK := Lib.hid hkk
      clear hkk
      cases b
      · have HR := Lib.hid (show ¬ ∀ t ∈ L, t.allTo q 20 = true from fun h => by
          have h1 := HK.out.2.2.1.1 h
          rw [HKK.out] at h1
          have := HBE.out.2 fun t ht => ((Exs.allTo_succ q _ t).1 (h1 t ht)).1
          cases this)
        have HB2 := Lib.hid (HK.out.2.2.2.trans (HB1.out.mono HK.out.2.2.2.size))
        clear HK HB1
        go_wp2_with fail
        go_ret
        exact ⟨⟨false, rfl, by simpa using HR.out⟩, HB2.out⟩
      · have HK1 := Lib.hid (HK.out.1.below HB1.out)
        go_wp2_with fail
        refine (below_any F _ _ HK1.out HK.out.2.1.1 HK.out.2.1.2.1 HK.out.2.1.2.2).mono ?_
        rintro e w2 ⟨y, G, rfl, hf, hv, hb⟩
        have HR := Lib.hid (show Lv w2 y G ∧ Sm G ∧ ((∀ t ∈ L, t.allTo q 20 = true) ↔ ∀ t ∈ G, t.allTo q (20 - (k + 1)) = true) ∧ Below w.heap.size w w2 from
          ⟨hv, HK.out.2.1.found hf, by rw [HK.out.2.2.1, HKK.out, hf.all]; exact ⟨fun h => h.2, fun h => ⟨HBE.out.1 (by first | rfl | trivial), h⟩⟩, (HK.out.2.2.2.trans (HB1.out.mono HK.out.2.2.2.size)).trans (hb.mono (Nat.le_trans HK.out.2.2.2.size HB1.out.size))⟩)
        clear HK HK1 HB1 HBE hf hv hb
        go_wp2_with fail
        go_roundw
        case rel => exact ⟨k + 1, G, by omega, by go_num, HR⟩
        case measure => simp [intOf]; omega
    · have hk8 : k = 20 := by omega
      subst hk8
      have HR := Lib.hid HK.out.2.2
      clear HK
      go_wp2
      go_ret
      refine ⟨⟨true, rfl, ?_⟩, HR.out.2⟩
      rw [HR.out.1]
      simp [Exs.allTo_zero]
end Go.Proofs.YtaabhlkhddkglaaDoor
