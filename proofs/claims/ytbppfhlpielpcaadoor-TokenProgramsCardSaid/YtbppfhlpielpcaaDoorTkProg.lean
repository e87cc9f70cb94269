/- The walk of the law TokenPrograms: it answers true. -/
import Derived.Test.YtbppfhlpielpcaaDoorGnTop
import Derived.Test.YtbppfhlpielpcaaDoorRfProg
import Derived.Test.YtbppfhlpielpcaaDoorTkEdit
import Derived.Test.YtbppfhlpielpcaaDoorTkRefScan
import Derived.Test.YtbppfhlpielpcaaDoorTkSame
import Derived.Test.YtbppfhlpielpcaaDoorTkAwake
import Derived.Deep.DeepCutAuto
import Derived.Deep.CutBlock
import Derived.Deep.RegionWith
namespace Go.Proofs.YtbppfhlpielpcaaDoor
open Go.RowKit Go.Maps Go.WideMaps Go.WideElems Tk
set_option linter.unusedVariables false
set_option linter.unusedSimpArgs false

theorem okWide_block {P : Program} {t e : TypeId} {r : Reach} {w : World} {b0 : Nat} {v : Value} (ht : P.underlying t = some (.slice e)) (h : Value.okWide P w r b0 t v) : ∀ a n c, v = .slice (some a) n c → a.block < w.heap.size := by
  rintro a n c rfl
  simp only [Value.okWide, ht, Cell.okWide, Cell.ok, World.has] at h
  obtain ⟨_, _, _, _, row, cells, hs, _⟩ := h
  rcases Nat.lt_or_ge a.block w.heap.size with hl | hg
  · exact hl
  · unfold World.shape? at hs
    rw [Array.getElem?_eq_none hg] at hs
    simp at hs
theorem toks_max (l : List UInt8) : (toks l).length ≤ 8192 := by
  unfold toks
  split
  · simp
  · split
    · rename_i T h
      have := count _ _ _ _ h
      omega
    · simp
theorem progtext_any (p : Pg) (hp0 : p.Ok) (v : Value) (S0 : Nat → Prop) (w : World) (hr0 : p.At w S0 v) :
    Calls Tryd.prog 6 #[v] w fun e w' => ∃ (s : ByteArray) (r : Int), e = .returned (.tuple #[.string s, .int .i64 r]) ∧ s.size ≤ 8192 ∧ Below w.heap.size w w' := by
  have hr : p.At w (fun b => b < w.heap.size) v := hr0.keep (Nat.le_refl _) fun b _ hl => ⟨hl, fun _ => rfl⟩
  obtain ⟨A0, c0, A1, c1, A2, c2, xs, rfl, _⟩ := id hr
  have HBp := Lib.hid ((Below.refl w.heap.size w).alloc (Nat.le_refl _) (.cells #[.slice A0 p.resources.length c0, .slice A1 p.shared.length c1, .slice A2 p.tasks.length c2] 32))
  have HP := Lib.hid (rprog_any p hp0 _ _ _ (hr.keep HBp.out.size (fun b hb _ => ⟨hb, fun f => World.cell?_of_block (HBp.out.block b hb)⟩)))
  clear hp0 hr0 hr
  go_enter Tryd.func6, Tryd.ntmps6
  go_wp2_with fail
  refine HP.out.mono ?_
  rintro e w1 ⟨s, r, rfl, hs, hb⟩
  go_wp2
  go_ret2
  exact ⟨s, r, rfl, hs, HBp.out.trans (hb.mono HBp.out.size)⟩
set_option maxRecDepth 100000 in
set_option maxHeartbeats 8000000 in
theorem programs_law (v : Value) (zs : List Int) (at_ by_ how : Int) (w : World) (hv : IntsIn .i64 w v zs) (hvb : ∀ a n c, v = .slice (some a) n c → a.block < w.heap.size) (hm : zs.length ≤ maxLen) (hz : ∀ z ∈ zs, -9223372036854775808 ≤ z ∧ z ≤ 9223372036854775807)
    (hat : -9223372036854775808 ≤ at_ ∧ at_ ≤ 9223372036854775807) (hby : 0 ≤ by_ ∧ by_ ≤ 255) (hhow : 0 ≤ how ∧ how ≤ 255) (ht : Tab w) :
    Calls Tryd.prog 3 #[v, .int .i64 at_, .int .u8 by_, .int .u8 how] w fun e w' => e = .returned (.bool true) ∧ Below w.heap.size w w' := by
  have HT := Lib.hid ht
  clear ht
  cases hb : decide (zs.length ≤ 400)
  · have HF := Lib.hid (few_any v zs false w hv hm hb)
    clear hv hvb hm hz hb hat hby hhow
    go_enter Tryd.func3, Tryd.ntmps3
    go_wp2_with fail
    refine HF.out.mono ?_
    rintro e w' ⟨rfl, rfl⟩
    go_wp2_with fail
    refine (awake_any _ HT.out).mono ?_
    rintro e w5 ⟨rfl, hb5⟩
    go_wp2
    go_ret
    exact ⟨rfl, hb5⟩
  · have HF := Lib.hid (few_any v zs true w hv hm hb)
    have HN := Lib.hid (newdeck_any v zs w hv hvb hm hz)
    have HAt := Lib.hid hat
    have HBy := Lib.hid hby
    obtain ⟨q, hq⟩ : ∃ q, how % 4 = q := ⟨_, rfl⟩
    have hq4 : 0 ≤ q ∧ q < 4 := by omega
    have hr1 : how.tmod 4 = q := by rw [Int.tmod_eq_emod_of_nonneg hhow.1]; exact hq
    have hr2 : IntKind.u8.wrap q = q := by simp [IntKind.wrap, IntKind.bits, IntKind.signed]; omega
    clear hv hvb hm hz hb hat hby hhow hq
    go_enter Tryd.func3, Tryd.ntmps3
    go_wp2_with fail
    refine HF.out.mono ?_
    rintro e w' ⟨rfl, rfl⟩
    go_wp2_with fail
    refine HN.out.mono ?_
    rintro e w1 ⟨rfl, hd, hb1⟩
    have HD := Lib.hid hd
    have HB1 := Lib.hid hb1
    clear hd hb1 HF HN
    go_wp2_with fail
    refine (progmake_any _ v zs w1 HD.out).mono ?_
    rintro e w2 ⟨p, vv, rfl, hok, hpat, _, hg⟩
    have HB2 := Lib.hid (HB1.out.trans (hg.toBelow (Nat.le_refl _) (Nat.le_refl _) HB1.out.size HB1.out.size))
    have HX := Lib.hid (progtext_any p hok vv _ w2 hpat)
    clear hok hpat hg HB1 HD
    go_wp2_with fail
    refine HX.out.mono ?_
    rintro e w3 ⟨s, r, rfl, hs, hb3⟩
    have HB3 := Lib.hid (HB2.out.trans (hb3.mono HB2.out.size))
    have HS := Lib.hid hs
    clear hb3 hs HX HB2
    by_cases hr : r = 0
    · have er : (r != 0) = false := by simp [hr]
      by_cases h0 : s.size = 0
      · have es : s.toList.isEmpty = true := by
          have h1 : s.data.size = 0 := h0
          rw [Lib.toList_data, List.isEmpty_iff_length_eq_zero, Array.length_toList]
          exact h1
        clear h0
        go_wp2_with fail
        refine (awake_any _ (tab_below HT.out HB3.out)).mono ?_
        rintro e w5 ⟨rfl, hb5⟩
        have HB5 := Lib.hid (HB3.out.trans (hb5.mono HB3.out.size))
        clear hb5
        go_wp2
        go_ret
        exact ⟨rfl, HB5.out⟩
      · have es : s.toList.isEmpty = false := by
          cases he : s.toList.isEmpty
          · rfl
          · exfalso
            rw [Lib.toList_data, List.isEmpty_iff_length_eq_zero, Array.length_toList] at he
            exact h0 he
        obtain ⟨cap, w4, hcv, hcap, hby4, hb4⟩ := bytes_new s w3
        have HB4 := Lib.hid (HB3.out.trans (hb4.mono HB3.out.size))
        have HY := Lib.hid (And.intro hby4 hcap)
        obtain ⟨n, hn⟩ : ∃ n, s.size = n := ⟨_, rfl⟩
        rw [hn] at hcv HY h0
        have hn1 : n ≤ 8192 := by rw [← hn]; exact HS.out
        have HM := Lib.hid (mod_any at_ n HAt.out (by omega))
        obtain ⟨i, hi⟩ := Int.eq_ofNat_of_zero_le (Int.emod_nonneg at_ (show (n : Int) ≠ 0 by omega))
        have hin : i < n := by have := Int.emod_lt_of_pos at_ (show (0 : Int) < n by omega); omega
        rw [hi] at HM
        have hg3 : w.heap.size ≤ w3.heap.size := HB3.out.size
        clear hb4 hby4 hcap hi HAt
        generalize w3.heap.size = g at *
        go_wp2_with fail
        refine (HM.out _).mono ?_
        rintro e w' ⟨rfl, rfl⟩
        go_upto_block 0 with fail
        go_cut [11] from 43 (fun vb wx => ∃ t : ByteArray, t.size ≤ 8193 ∧ Hid (Txt vb t wx ∧ Below w.heap.size w wx))
        case first =>
          have hqc : q = 0 ∨ q = 1 ∨ q = 2 ∨ q = 3 := by omega
          rcases hqc with rfl | rfl | rfl | rfl
          · obtain ⟨⟨k0, hk0, _⟩, hf0⟩ := HY.out.1.2 i hin
            have HS2 := Lib.hid (HY.out.1.set i by_ HBy.out hin)
            go_wp2
            go_meet
            case rel =>
              obtain ⟨t, ht, hx⟩ := byt_txt HS2.out.1 n cap (Nat.le_refl _)
              exact ⟨t, by omega, Lib.hid ⟨hx, HB4.out.trans (HS2.out.2.below hg3)⟩⟩
          · have hyd : Byt g n w4.drew := HY.out.1.below (below_drewN _ _ 1)
            have hc := HY.out.2
            obtain ⟨o, hop, hol⟩ : ∃ o, (if cap = i + 1 then (some (⟨g, 0, none⟩ : Addr)) else some ⟨g, i + 1, none⟩) = some ⟨g, o, none⟩ ∧ o + (n - (i + 1)) ≤ n := by
              by_cases e : cap = i + 1
              · exact ⟨0, by rw [if_pos e], by omega⟩
              · exact ⟨i + 1, by rw [if_neg e], by omega⟩
            obtain ⟨w5, hr5, hby5, ho5⟩ := append_in 36 g n cap o (n - (i + 1)) i w4.drew hyd hol (by omega) (by omega) (cap - (i + 1))
            have b4 : (0 : Int) ≤ (i : Int) + 1 ∧ (i : Int) + 1 ≤ (n : Int) := by omega
            have HS2 := Lib.hid (And.intro hby5 ho5)
            have wi : IntKind.i64.wrap ((i : Int) + 1) = ((i + 1 : Nat) : Int) := by rw [IntWalk.i64_in] <;> omega
            have b1 : i + 1 ≤ n := hin
            have b3 : i ≤ cap := by omega
            clear hyd hby5 ho5
            go_upto_region 12 with fail
            refine wp_region_held_drew (S := fun _ => True) (by kernel_rfl) trivial (fun hHeld => ?_)
            refine' wpAnyH_take (i := 0) (v := _) ?_ ?_ ?_ ?_ ?_ ?_ ?_ ?_
            rotate_left 2
            focus (simp only [List.getElem?_toArray, List.getElem?_cons_succ, List.getElem?_cons_zero]; rfl)
            focus kernel_rfl
            focus kernel_rfl
            focus kernel_rfl
            focus exact (fun _ _ _ h => h)
            refine Or.inl ⟨?_, ?_⟩
            focus (go_simp; done)
            focus (intro w hSw; (first | (go_simp; done) | (go_simp; with_reducible rfl)))
            focus assumption
            (try simp only [Act.put, List.setIfInBounds_toArray, List.set_cons_zero, List.set_cons_succ])
            refine' wpAnyH_take (i := 1) (v := _) ?_ ?_ ?_ ?_ ?_ ?_ ?_ ?_
            rotate_left 2
            focus (simp only [List.getElem?_toArray, List.getElem?_cons_succ, List.getElem?_cons_zero]; rfl)
            focus kernel_rfl
            focus kernel_rfl
            focus kernel_rfl
            focus exact (fun _ _ _ h => h)
            refine Or.inl ⟨?_, ?_⟩
            focus (go_simp; done)
            focus (intro w hSw; (first | (go_simp; done) | (go_simp; with_reducible rfl)))
            focus assumption
            (try simp only [Act.put, List.setIfInBounds_toArray, List.set_cons_zero, List.set_cons_succ])
            refine' wpAnyH_take (i := 2) (v := _) ?_ ?_ ?_ ?_ ?_ ?_ ?_ ?_
            rotate_left 2
            focus (simp only [List.getElem?_toArray, List.getElem?_cons_succ, List.getElem?_cons_zero]; rfl)
            focus kernel_rfl
            focus kernel_rfl
            focus kernel_rfl
            focus exact (fun _ _ _ h => h)
            refine Or.inl ⟨?_, ?_⟩
            focus (go_simp; done)
            focus (intro w hSw; (first | (go_simp; done) | (go_simp; with_reducible rfl)))
            focus assumption
            (try simp only [Act.put, List.setIfInBounds_toArray, List.set_cons_zero, List.set_cons_succ])
            refine' wpAnyH_take (i := 3) (v := _) ?_ ?_ ?_ ?_ ?_ ?_ ?_ ?_
            rotate_left 2
            focus (simp only [List.getElem?_toArray, List.getElem?_cons_succ, List.getElem?_cons_zero]; rfl)
            focus kernel_rfl
            focus kernel_rfl
            focus kernel_rfl
            focus exact (fun _ _ _ h => h)
            refine Or.inl ⟨?_, ?_⟩
            focus (go_simp; done)
            focus (intro w hSw; (first | (go_simp; done) | (go_simp; with_reducible rfl)))
            focus assumption
            (try simp only [Act.put, List.setIfInBounds_toArray, List.set_cons_zero, List.set_cons_succ])
            refine' wpAnyH_take (i := 4) (v := _) ?_ ?_ ?_ ?_ ?_ ?_ ?_ ?_
            rotate_left 2
            focus (simp only [List.getElem?_toArray, List.getElem?_cons_succ, List.getElem?_cons_zero]; rfl)
            focus kernel_rfl
            focus kernel_rfl
            focus kernel_rfl
            focus exact (fun _ _ _ h => h)
            refine Or.inl ⟨?_, ?_⟩
            focus (go_simp; done)
            focus (intro w hSw; (first | (go_simp; done) | (go_simp; with_reducible rfl)))
            focus assumption
            (try simp only [Act.put, List.setIfInBounds_toArray, List.set_cons_zero, List.set_cons_succ])
            refine' wpAnyH_take (i := 5) (v := _) ?_ ?_ ?_ ?_ ?_ ?_ ?_ ?_
            rotate_left 2
            focus (simp only [List.getElem?_toArray, List.getElem?_cons_succ, List.getElem?_cons_zero]; rfl)
            focus kernel_rfl
            focus kernel_rfl
            focus kernel_rfl
            focus exact (fun _ _ _ h => h)
            refine Or.inl ⟨?_, ?_⟩
            focus (go_simp; done)
            focus (intro w hSw; (first | (go_simp; done) | (go_simp; with_reducible rfl)))
            focus assumption
            (try simp only [Act.put, List.setIfInBounds_toArray, List.set_cons_zero, List.set_cons_succ])
            refine' wpAnyH_take (i := 6) (v := _) ?_ ?_ ?_ ?_ ?_ ?_ ?_ ?_
            rotate_left 2
            focus (simp only [List.getElem?_toArray, List.getElem?_cons_succ, List.getElem?_cons_zero]; rfl)
            focus kernel_rfl
            focus kernel_rfl
            focus kernel_rfl
            focus exact (fun _ _ _ h => h)
            refine Or.inl ⟨?_, ?_⟩
            focus (go_simp; done)
            focus (intro w hSw; (first | (go_simp; done) | (go_simp; with_reducible rfl)))
            focus assumption
            (try simp only [Act.put, List.setIfInBounds_toArray, List.set_cons_zero, List.set_cons_succ])
            refine wpAnyH_ready (rs := [7]) (by kernel_rfl) (by simp) ?_
            refine' AllReadyH.cons ?_ (fun K hK => ?_) AllReadyH.nil
            rotate_left
            focus (simp only [List.getElem?_toArray, List.getElem?_cons_succ, List.getElem?_cons_zero]; rfl)
            refine step_append_run _ _ rfl (.tmp 55) (.tmp 59) rfl (by first | rfl | simp [Act.eval]) (by first | rfl | simp [Act.eval]) hr5 ?_
            refine hK.out _ _ trivial (fun hHeld => ?_)
            clear hK K
            (try simp only [Act.put, List.setIfInBounds_toArray, List.set_cons_zero, List.set_cons_succ])
            refine' wpAnyH_take (i := 8) (v := _) ?_ ?_ ?_ ?_ ?_ ?_ ?_ ?_
            rotate_left 2
            focus (simp only [List.getElem?_toArray, List.getElem?_cons_succ, List.getElem?_cons_zero]; rfl)
            focus kernel_rfl
            focus kernel_rfl
            focus kernel_rfl
            focus exact (fun _ _ _ h => h)
            refine Or.inl ⟨?_, ?_⟩
            focus (go_simp; done)
            focus (intro w hSw; (first | (go_simp; done) | (go_simp; with_reducible rfl)))
            focus assumption
            (try simp only [Act.put, List.setIfInBounds_toArray, List.set_cons_zero, List.set_cons_succ])
            refine wpAnyH_done (by kernel_rfl) ?_ _
            go_wp2
            go_meet
            case rel =>
              obtain ⟨t, ht, hx⟩ := byt_txt HS2.out.1 (i + (n - (i + 1))) cap (by omega)
              exact ⟨t, by omega, Lib.hid ⟨hx, (HB4.out.trans (below_drewN _ _ 1)).trans (HS2.out.2.below hg3)⟩⟩
          · have HBd := Lib.hid (show Byt g n w4.drew from HY.out.1.below (below_drewN _ _ 1))
            have hc := HY.out.2
            obtain ⟨⟨kb, hkd, hkb⟩, _⟩ := HBd.out.2 i hin
            have hCell : ∀ u, Below w4.drew.heap.size w4.drew u → u.cell? ⟨g, i, none⟩ = some (.int .u8 kb) := fun u hu => (hu.cell (p := ⟨g, i, none⟩) HBd.out.1).trans hkd
            have hO := Ow.start w4.drew kb
            have b1 : i + 1 ≤ n := hin
            have b2 : i ≤ n := by omega
            have b3 : i ≤ cap := by omega
            have b5 : ¬ cap = i := by omega
            go_upto_region 14 with fail
            refine wp_region_held_drew (S := (fun u => u.cell? ⟨g, i, none⟩ = some (.int .u8 kb))) (by kernel_rfl) hkd (fun hHeld => ?_)
            have HBW := Lib.hid (show Below w.heap.size w w4.drew from HB4.out.trans (below_drewN _ _ 1))
            generalize w4.drew = wd at *
            refine' wpAnyH_take (i := 1) (v := _) ?_ ?_ ?_ ?_ ?_ ?_ ?_ ?_
            rotate_left 2
            focus (simp only [List.getElem?_toArray, List.getElem?_cons_succ, List.getElem?_cons_zero]; rfl)
            focus kernel_rfl
            focus kernel_rfl
            focus kernel_rfl
            focus exact (fun _ _ _ h => h)
            refine Or.inl ⟨?_, ?_⟩
            focus (go_simp; done)
            focus (intro w hSw; (first | (go_simp; done) | (go_simp; with_reducible rfl)))
            focus assumption
            (try simp only [Act.put, List.setIfInBounds_toArray, List.set_cons_zero, List.set_cons_succ])
            refine' wpAnyH_take (i := 2) (v := _) ?_ ?_ ?_ ?_ ?_ ?_ ?_ ?_
            rotate_left 2
            focus (simp only [List.getElem?_toArray, List.getElem?_cons_succ, List.getElem?_cons_zero]; rfl)
            focus kernel_rfl
            focus kernel_rfl
            focus kernel_rfl
            focus exact (fun _ _ _ h => h)
            refine Or.inl ⟨?_, ?_⟩
            focus (go_simp; done)
            focus (intro w hSw; (first | (go_simp; done) | (go_simp; with_reducible rfl)))
            focus assumption
            (try simp only [Act.put, List.setIfInBounds_toArray, List.set_cons_zero, List.set_cons_succ])
            refine' wpAnyH_take (i := 3) (v := _) ?_ ?_ ?_ ?_ ?_ ?_ ?_ ?_
            rotate_left 2
            focus (simp only [List.getElem?_toArray, List.getElem?_cons_succ, List.getElem?_cons_zero]; rfl)
            focus kernel_rfl
            focus kernel_rfl
            focus kernel_rfl
            focus exact (fun _ _ _ h => h)
            refine Or.inl ⟨?_, ?_⟩
            focus (go_simp; done)
            focus (intro w hSw; (first | (go_simp; done) | (go_simp; with_reducible rfl)))
            focus assumption
            (try simp only [Act.put, List.setIfInBounds_toArray, List.set_cons_zero, List.set_cons_succ])
            refine' wpAnyH_take (i := 5) (v := _) ?_ ?_ ?_ ?_ ?_ ?_ ?_ ?_
            rotate_left 2
            focus (simp only [List.getElem?_toArray, List.getElem?_cons_succ, List.getElem?_cons_zero]; rfl)
            focus kernel_rfl
            focus kernel_rfl
            focus kernel_rfl
            focus exact (fun _ _ _ h => h)
            refine Or.inl ⟨?_, ?_⟩
            focus (go_simp; done)
            focus (intro w hSw; (first | (go_simp; done) | (go_simp; with_reducible rfl)))
            focus assumption
            (try simp only [Act.put, List.setIfInBounds_toArray, List.set_cons_zero, List.set_cons_succ])
            refine' wpAnyH_take (i := 6) (v := _) ?_ ?_ ?_ ?_ ?_ ?_ ?_ ?_
            rotate_left 2
            focus (simp only [List.getElem?_toArray, List.getElem?_cons_succ, List.getElem?_cons_zero]; rfl)
            focus kernel_rfl
            focus kernel_rfl
            focus kernel_rfl
            focus exact (fun _ _ _ h => h)
            refine Or.inl ⟨?_, ?_⟩
            focus (go_simp; done)
            focus (intro w hSw; (first | (go_simp; done) | (go_simp; with_reducible rfl)))
            focus assumption
            (try simp only [Act.put, List.setIfInBounds_toArray, List.set_cons_zero, List.set_cons_succ])
            refine' wpAnyH_take (i := 7) (v := _) ?_ ?_ ?_ ?_ ?_ ?_ ?_ ?_
            rotate_left 2
            focus (simp only [List.getElem?_toArray, List.getElem?_cons_succ, List.getElem?_cons_zero]; rfl)
            focus kernel_rfl
            focus kernel_rfl
            focus kernel_rfl
            focus exact (fun _ _ _ h => h)
            refine Or.inl ⟨?_, ?_⟩
            focus (go_simp; done)
            focus (intro w hSw; (first | (go_simp; done) | (go_simp; with_reducible rfl)))
            focus assumption
            (try simp only [Act.put, List.setIfInBounds_toArray, List.set_cons_zero, List.set_cons_succ])
            refine' wpAnyH_take (i := 8) (v := _) ?_ ?_ ?_ ?_ ?_ ?_ ?_ ?_
            rotate_left 2
            focus (simp only [List.getElem?_toArray, List.getElem?_cons_succ, List.getElem?_cons_zero]; rfl)
            focus kernel_rfl
            focus kernel_rfl
            focus kernel_rfl
            focus exact (fun _ _ _ h => h)
            refine Or.inl ⟨?_, ?_⟩
            focus (go_simp; done)
            focus (intro w hSw; (first | (go_simp; done) | (go_simp; with_reducible rfl)))
            focus assumption
            (try simp only [Act.put, List.setIfInBounds_toArray, List.set_cons_zero, List.set_cons_succ])
            refine' wpAnyH_take (i := 11) (v := _) ?_ ?_ ?_ ?_ ?_ ?_ ?_ ?_
            rotate_left 2
            focus (simp only [List.getElem?_toArray, List.getElem?_cons_succ, List.getElem?_cons_zero]; rfl)
            focus kernel_rfl
            focus kernel_rfl
            focus kernel_rfl
            focus exact (fun _ _ _ h => h)
            refine Or.inl ⟨?_, ?_⟩
            focus (go_simp; done)
            focus (intro w hSw; (first | (go_simp; done) | (go_simp; with_reducible rfl)))
            focus assumption
            (try simp only [Act.put, List.setIfInBounds_toArray, List.set_cons_zero, List.set_cons_succ])
            refine' wpAnyH_take (i := 12) (v := _) ?_ ?_ ?_ ?_ ?_ ?_ ?_ ?_
            rotate_left 2
            focus (simp only [List.getElem?_toArray, List.getElem?_cons_succ, List.getElem?_cons_zero]; rfl)
            focus kernel_rfl
            focus kernel_rfl
            focus kernel_rfl
            focus exact (fun _ _ _ h => h)
            refine Or.inl ⟨?_, ?_⟩
            focus (go_simp; done)
            focus (intro w hSw; (first | (go_simp; done) | (go_simp; with_reducible rfl)))
            focus assumption
            (try simp only [Act.put, List.setIfInBounds_toArray, List.set_cons_zero, List.set_cons_succ])
            refine' wpAnyH_take (i := 13) (v := _) ?_ ?_ ?_ ?_ ?_ ?_ ?_ ?_
            rotate_left 2
            focus (simp only [List.getElem?_toArray, List.getElem?_cons_succ, List.getElem?_cons_zero]; rfl)
            focus kernel_rfl
            focus kernel_rfl
            focus kernel_rfl
            focus exact (fun _ _ _ h => h)
            refine Or.inl ⟨?_, ?_⟩
            focus (go_simp; done)
            focus (intro w hSw; (first | (go_simp; done) | (go_simp; with_reducible rfl)))
            focus assumption
            (try simp only [Act.put, List.setIfInBounds_toArray, List.set_cons_zero, List.set_cons_succ])
            refine wpAnyH_ready (rs := [0, 9]) (by kernel_rfl) (by simp) ?_
            refine' AllReadyH.cons ?_ (fun K hK => ?_) ?_
            rotate_left
            focus (simp only [List.getElem?_toArray, List.getElem?_cons_succ, List.getElem?_cons_zero]; rfl)
            focus
              go_simp
              replace hO := hO.lit
              refine hK.out _ _ (hCell _ hO.1) (fun hHeld => ?_)
              clear hK K
              (try simp only [Act.put, List.setIfInBounds_toArray, List.set_cons_zero, List.set_cons_succ])
              generalize (Value.slice (some ⟨wd.heap.size, 0, none⟩) 0 0) = v0 at *
              generalize wd.alloc (.cells #[] 5) = u0 at *
              refine wpAnyH_ready (rs := [4, 9]) (by kernel_rfl) (by simp) ?_
              refine' AllReadyH.cons ?_ (fun K hK => ?_) ?_
              rotate_left
              focus (simp only [List.getElem?_toArray, List.getElem?_cons_succ, List.getElem?_cons_zero]; rfl)
              focus
                obtain ⟨v4, u4, hr4, hO4⟩ := hO.appB 36 HBd.out 0 i cap (by omega) (by omega)
                refine step_append_run _ _ rfl (.tmp 63) (.tmp 66) rfl (by first | rfl | simp [Act.eval]) (by first | rfl | simp [Act.eval]) hr4 ?_
                clear hr4 hO
                have hO := hO4
                clear hO4
                refine hK.out _ _ (hCell _ hO.1) (fun hHeld => ?_)
                clear hK K
                (try simp only [Act.put, List.setIfInBounds_toArray, List.set_cons_zero, List.set_cons_succ])
                refine wpAnyH_ready (rs := [9]) (by kernel_rfl) (by simp) ?_
                refine' AllReadyH.cons ?_ (fun K hK => ?_) AllReadyH.nil
                rotate_left
                focus (simp only [List.getElem?_toArray, List.getElem?_cons_succ, List.getElem?_cons_zero]; rfl)
                go_simp
                replace hO := hO.one
                refine hK.out _ _ (hCell _ hO.1) (fun hHeld => ?_)
                clear hK K
                (try simp only [Act.put, List.setIfInBounds_toArray, List.set_cons_zero, List.set_cons_succ])
                generalize u4.alloc (.cells #[.int .u8 kb] 5) = u9 at *
                generalize u4.heap.size = q9 at hO ⊢
                refine wpAnyH_ready (rs := [10]) (by kernel_rfl) (by simp) ?_
                refine' AllReadyH.cons ?_ (fun K hK => ?_) AllReadyH.nil
                rotate_left
                focus (simp only [List.getElem?_toArray, List.getElem?_cons_succ, List.getElem?_cons_zero]; rfl)
                obtain ⟨v10, u10, hr10, hO10⟩ := hO.app1 36 hkb (by omega)
                refine step_append_run _ _ rfl (.tmp 67) (.tmp 72) rfl (by first | rfl | simp [Act.eval]) (by first | rfl | simp [Act.eval]) hr10 ?_
                clear hr10 hO
                have hO := hO10
                clear hO10
                refine hK.out _ _ (hCell _ hO.1) (fun hHeld => ?_)
                clear hK K
                (try simp only [Act.put, List.setIfInBounds_toArray, List.set_cons_zero, List.set_cons_succ])
                refine wpAnyH_ready (rs := [14]) (by kernel_rfl) (by simp) ?_
                refine' AllReadyH.cons ?_ (fun K hK => ?_) AllReadyH.nil
                rotate_left
                focus (simp only [List.getElem?_toArray, List.getElem?_cons_succ, List.getElem?_cons_zero]; rfl)
                obtain ⟨v14, u14, hr14, hO14⟩ := hO.appB 36 HBd.out i (n - i) (cap - i) (by omega) (by omega)
                refine step_append_run _ _ rfl (.tmp 73) (.tmp 76) rfl (by first | rfl | simp [Act.eval]) (by first | rfl | simp [Act.eval]) hr14 ?_
                clear hr14 hO
                have hO := hO14
                clear hO14
                refine hK.out _ _ (hCell _ hO.1) (fun hHeld => ?_)
                clear hK K
                (try simp only [Act.put, List.setIfInBounds_toArray, List.set_cons_zero, List.set_cons_succ])
                refine' wpAnyH_take (i := 15) (v := _) ?_ ?_ ?_ ?_ ?_ ?_ ?_ ?_
                rotate_left 2
                focus (simp only [List.getElem?_toArray, List.getElem?_cons_succ, List.getElem?_cons_zero]; rfl)
                focus kernel_rfl
                focus kernel_rfl
                focus kernel_rfl
                focus exact (fun _ _ _ h => h)
                refine Or.inl ⟨?_, ?_⟩
                focus (go_simp; done)
                focus (intro w hSw; (first | (go_simp; done) | (go_simp; with_reducible rfl)))
                focus assumption
                (try simp only [Act.put, List.setIfInBounds_toArray, List.set_cons_zero, List.set_cons_succ])
                refine wpAnyH_done (by kernel_rfl) ?_ _
                go_wp2
                go_meet
                case rel =>
                  obtain ⟨t, ht, hx⟩ := outb_txt hO.2.1
                  exact ⟨t, by omega, Lib.hid ⟨hx, HBW.out.trans (hO.1.mono HBW.out.size)⟩⟩
              refine' AllReadyH.cons ?_ (fun K hK => ?_) ?_
              rotate_left
              focus (simp only [List.getElem?_toArray, List.getElem?_cons_succ, List.getElem?_cons_zero]; rfl)
              focus
                go_simp
                replace hO := hO.one
                refine hK.out _ _ (hCell _ hO.1) (fun hHeld => ?_)
                clear hK K
                (try simp only [Act.put, List.setIfInBounds_toArray, List.set_cons_zero, List.set_cons_succ])
                generalize u0.alloc (.cells #[.int .u8 kb] 5) = u9 at *
                generalize u0.heap.size = q9 at hO ⊢
                refine wpAnyH_ready (rs := [4]) (by kernel_rfl) (by simp) ?_
                refine' AllReadyH.cons ?_ (fun K hK => ?_) AllReadyH.nil
                rotate_left
                focus (simp only [List.getElem?_toArray, List.getElem?_cons_succ, List.getElem?_cons_zero]; rfl)
                obtain ⟨v4, u4, hr4, hO4⟩ := hO.appB 36 HBd.out 0 i cap (by omega) (by omega)
                refine step_append_run _ _ rfl (.tmp 63) (.tmp 66) rfl (by first | rfl | simp [Act.eval]) (by first | rfl | simp [Act.eval]) hr4 ?_
                clear hr4 hO
                have hO := hO4
                clear hO4
                refine hK.out _ _ (hCell _ hO.1) (fun hHeld => ?_)
                clear hK K
                (try simp only [Act.put, List.setIfInBounds_toArray, List.set_cons_zero, List.set_cons_succ])
                refine wpAnyH_ready (rs := [10]) (by kernel_rfl) (by simp) ?_
                refine' AllReadyH.cons ?_ (fun K hK => ?_) AllReadyH.nil
                rotate_left
                focus (simp only [List.getElem?_toArray, List.getElem?_cons_succ, List.getElem?_cons_zero]; rfl)
                obtain ⟨v10, u10, hr10, hO10⟩ := hO.app1 36 hkb (by omega)
                refine step_append_run _ _ rfl (.tmp 67) (.tmp 72) rfl (by first | rfl | simp [Act.eval]) (by first | rfl | simp [Act.eval]) hr10 ?_
                clear hr10 hO
                have hO := hO10
                clear hO10
                refine hK.out _ _ (hCell _ hO.1) (fun hHeld => ?_)
                clear hK K
                (try simp only [Act.put, List.setIfInBounds_toArray, List.set_cons_zero, List.set_cons_succ])
                refine wpAnyH_ready (rs := [14]) (by kernel_rfl) (by simp) ?_
                refine' AllReadyH.cons ?_ (fun K hK => ?_) AllReadyH.nil
                rotate_left
                focus (simp only [List.getElem?_toArray, List.getElem?_cons_succ, List.getElem?_cons_zero]; rfl)
                obtain ⟨v14, u14, hr14, hO14⟩ := hO.appB 36 HBd.out i (n - i) (cap - i) (by omega) (by omega)
                refine step_append_run _ _ rfl (.tmp 73) (.tmp 76) rfl (by first | rfl | simp [Act.eval]) (by first | rfl | simp [Act.eval]) hr14 ?_
                clear hr14 hO
                have hO := hO14
                clear hO14
                refine hK.out _ _ (hCell _ hO.1) (fun hHeld => ?_)
                clear hK K
                (try simp only [Act.put, List.setIfInBounds_toArray, List.set_cons_zero, List.set_cons_succ])
                refine' wpAnyH_take (i := 15) (v := _) ?_ ?_ ?_ ?_ ?_ ?_ ?_ ?_
                rotate_left 2
                focus (simp only [List.getElem?_toArray, List.getElem?_cons_succ, List.getElem?_cons_zero]; rfl)
                focus kernel_rfl
                focus kernel_rfl
                focus kernel_rfl
                focus exact (fun _ _ _ h => h)
                refine Or.inl ⟨?_, ?_⟩
                focus (go_simp; done)
                focus (intro w hSw; (first | (go_simp; done) | (go_simp; with_reducible rfl)))
                focus assumption
                (try simp only [Act.put, List.setIfInBounds_toArray, List.set_cons_zero, List.set_cons_succ])
                refine wpAnyH_done (by kernel_rfl) ?_ _
                go_wp2
                go_meet
                case rel =>
                  obtain ⟨t, ht, hx⟩ := outb_txt hO.2.1
                  exact ⟨t, by omega, Lib.hid ⟨hx, HBW.out.trans (hO.1.mono HBW.out.size)⟩⟩
              exact AllReadyH.nil
            refine' AllReadyH.cons ?_ (fun K hK => ?_) ?_
            rotate_left
            focus (simp only [List.getElem?_toArray, List.getElem?_cons_succ, List.getElem?_cons_zero]; rfl)
            focus
              go_simp
              replace hO := hO.one
              refine hK.out _ _ (hCell _ hO.1) (fun hHeld => ?_)
              clear hK K
              (try simp only [Act.put, List.setIfInBounds_toArray, List.set_cons_zero, List.set_cons_succ])
              generalize wd.alloc (.cells #[.int .u8 kb] 5) = u9 at *
              generalize wd.heap.size = q9 at hO ⊢
              refine wpAnyH_ready (rs := [0]) (by kernel_rfl) (by simp) ?_
              refine' AllReadyH.cons ?_ (fun K hK => ?_) AllReadyH.nil
              rotate_left
              focus (simp only [List.getElem?_toArray, List.getElem?_cons_succ, List.getElem?_cons_zero]; rfl)
              go_simp
              replace hO := hO.lit
              refine hK.out _ _ (hCell _ hO.1) (fun hHeld => ?_)
              clear hK K
              (try simp only [Act.put, List.setIfInBounds_toArray, List.set_cons_zero, List.set_cons_succ])
              generalize (Value.slice (some ⟨u9.heap.size, 0, none⟩) 0 0) = v0 at *
              generalize u9.alloc (.cells #[] 5) = u0 at *
              refine wpAnyH_ready (rs := [4]) (by kernel_rfl) (by simp) ?_
              refine' AllReadyH.cons ?_ (fun K hK => ?_) AllReadyH.nil
              rotate_left
              focus (simp only [List.getElem?_toArray, List.getElem?_cons_succ, List.getElem?_cons_zero]; rfl)
              obtain ⟨v4, u4, hr4, hO4⟩ := hO.appB 36 HBd.out 0 i cap (by omega) (by omega)
              refine step_append_run _ _ rfl (.tmp 63) (.tmp 66) rfl (by first | rfl | simp [Act.eval]) (by first | rfl | simp [Act.eval]) hr4 ?_
              clear hr4 hO
              have hO := hO4
              clear hO4
              refine hK.out _ _ (hCell _ hO.1) (fun hHeld => ?_)
              clear hK K
              (try simp only [Act.put, List.setIfInBounds_toArray, List.set_cons_zero, List.set_cons_succ])
              refine wpAnyH_ready (rs := [10]) (by kernel_rfl) (by simp) ?_
              refine' AllReadyH.cons ?_ (fun K hK => ?_) AllReadyH.nil
              rotate_left
              focus (simp only [List.getElem?_toArray, List.getElem?_cons_succ, List.getElem?_cons_zero]; rfl)
              obtain ⟨v10, u10, hr10, hO10⟩ := hO.app1 36 hkb (by omega)
              refine step_append_run _ _ rfl (.tmp 67) (.tmp 72) rfl (by first | rfl | simp [Act.eval]) (by first | rfl | simp [Act.eval]) hr10 ?_
              clear hr10 hO
              have hO := hO10
              clear hO10
              refine hK.out _ _ (hCell _ hO.1) (fun hHeld => ?_)
              clear hK K
              (try simp only [Act.put, List.setIfInBounds_toArray, List.set_cons_zero, List.set_cons_succ])
              refine wpAnyH_ready (rs := [14]) (by kernel_rfl) (by simp) ?_
              refine' AllReadyH.cons ?_ (fun K hK => ?_) AllReadyH.nil
              rotate_left
              focus (simp only [List.getElem?_toArray, List.getElem?_cons_succ, List.getElem?_cons_zero]; rfl)
              obtain ⟨v14, u14, hr14, hO14⟩ := hO.appB 36 HBd.out i (n - i) (cap - i) (by omega) (by omega)
              refine step_append_run _ _ rfl (.tmp 73) (.tmp 76) rfl (by first | rfl | simp [Act.eval]) (by first | rfl | simp [Act.eval]) hr14 ?_
              clear hr14 hO
              have hO := hO14
              clear hO14
              refine hK.out _ _ (hCell _ hO.1) (fun hHeld => ?_)
              clear hK K
              (try simp only [Act.put, List.setIfInBounds_toArray, List.set_cons_zero, List.set_cons_succ])
              refine' wpAnyH_take (i := 15) (v := _) ?_ ?_ ?_ ?_ ?_ ?_ ?_ ?_
              rotate_left 2
              focus (simp only [List.getElem?_toArray, List.getElem?_cons_succ, List.getElem?_cons_zero]; rfl)
              focus kernel_rfl
              focus kernel_rfl
              focus kernel_rfl
              focus exact (fun _ _ _ h => h)
              refine Or.inl ⟨?_, ?_⟩
              focus (go_simp; done)
              focus (intro w hSw; (first | (go_simp; done) | (go_simp; with_reducible rfl)))
              focus assumption
              (try simp only [Act.put, List.setIfInBounds_toArray, List.set_cons_zero, List.set_cons_succ])
              refine wpAnyH_done (by kernel_rfl) ?_ _
              go_wp2
              go_meet
              case rel =>
                obtain ⟨t, ht, hx⟩ := outb_txt hO.2.1
                exact ⟨t, by omega, Lib.hid ⟨hx, HBW.out.trans (hO.1.mono HBW.out.size)⟩⟩
            exact AllReadyH.nil
          · go_wp2
            go_meet
            case rel =>
              obtain ⟨t, ht, hx⟩ := byt_txt HY.out.1 n cap (Nat.le_refl _)
              exact ⟨t, by omega, Lib.hid ⟨hx, HB4.out⟩⟩
        case rest =>
          obtain ⟨t, htl, HX⟩ := hcut
          have hs1 : t.size ≤ maxLen := by unfold maxLen; omega
          have HS1 := Lib.hid (scan_any t hs1)
          have HR1 := Lib.hid (rscan_any t hs1)
          have e1 := HX.out.1 wc (Below.refl _ _)
          clear hs1 htl HY HM HBy
          go_wp2_with fail
          refine (HS1.out _).mono ?_
          rintro e w6 ⟨⟨v2, rfl, hown2⟩, hb2⟩
          have HB6 := Lib.hid (HX.out.2.trans (hb2.mono HX.out.2.size))
          have HO2 := Lib.hid hown2
          have e2 := HX.out.1 w6 hb2
          clear hb2 hown2 e1
          go_wp2_with fail
          refine (HR1.out _).mono ?_
          rintro e w7 ⟨⟨v3, rfl, hown3⟩, hb3⟩
          have HO2' := Lib.hid (own_below HO2.out hb3)
          have HB7 := Lib.hid (HB6.out.trans (hb3.mono HB6.out.size))
          have HO3 := Lib.hid hown3
          clear hb3 hown3 e2
          go_wp2_with fail
          refine (same_any true _ _ v2 v3 _ _ _ HO2'.out HO3.out (alike_refl _ _) (by have := toks_max (bs t); unfold maxLen; omega)).mono ?_
          rintro e w8 ⟨rfl, nn, rfl⟩
          have HB8 := Lib.hid (HB7.out.trans (below_drewN _ _ nn))
          go_wp2_with fail
          refine (awake_any _ (tab_below HT.out HB8.out)).mono ?_
          rintro e w9 ⟨rfl, hb5⟩
          have HB9 := Lib.hid (HB8.out.trans (hb5.mono HB8.out.size))
          clear hb5
          go_wp2
          go_ret
          exact ⟨rfl, HB9.out⟩
    · have er : (r != 0) = true := by simp [hr]
      clear hr
      go_wp2_with fail
      refine (awake_any _ (tab_below HT.out HB3.out)).mono ?_
      rintro e w5 ⟨rfl, hb5⟩
      have HB5 := Lib.hid (HB3.out.trans (hb5.mono HB3.out.size))
      clear hb5
      go_wp2
      go_ret
      exact ⟨rfl, HB5.out⟩
end Go.Proofs.YtbppfhlpielpcaaDoor
