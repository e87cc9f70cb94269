/- Word of package token and of its specification: the text of a token. -/
import Derived.Test.YtbppfhlpielpcaaDoorTkSame
import Derived.Deep.RegionWith
import Derived.Laws.BytesArg
namespace Go.Proofs.YtbppfhlpielpcaaDoor
open Go.RowKit Go.Maps Go.WideMaps Go.WideElems Tk
set_option linter.unusedVariables false
set_option maxRecDepth 100000

theorem one_byte (c : Int) : ∀ w : World, (convert 36 9 (.slice (some ⟨w.heap.size, 0, none⟩) 1 1)).run Tryd.prog (w.alloc (.cells #[.int .u8 c] 5)) = .ok (.string ⟨#[UInt8.ofNat c.toNat]⟩) (w.alloc (.cells #[.int .u8 c] 5)) := by
  intro w
  rw [run_convert_bytes_arg (w.alloc (.cells #[.int .u8 c] 5)) 36 5 Tryd.underlying36 Tryd.underlying5 w.heap.size 0 1 1 [c] rfl (fun i hi => by
    have : i = 0 := by omega
    subst this
    simp) 9 Tryd.underlying9]
  rfl
theorem conv_after (w w1 : World) (c : Int) (hb : w1.heap[w.heap.size]? = (w.alloc (.cells #[.int .u8 c] 5)).heap[w.heap.size]?) :
    (convert 36 9 (.slice (some ⟨w.heap.size, 0, none⟩) 1 1)).run Tryd.prog w1 = .ok (.string ⟨#[UInt8.ofNat c.toNat]⟩) w1 := by
  rw [run_convert_bytes_arg w1 36 5 Tryd.underlying36 Tryd.underlying5 w.heap.size 0 1 1 [c] rfl (fun i hi => by
    have : i = 0 := by omega
    subst this
    rw [World.cell?_of_block hb]
    simp) 9 Tryd.underlying9]
  rfl
theorem undrew {w w1 : World} (h : Below w.drew.heap.size w.drew w1) : Below w.heap.size w w1 := ⟨h.os, h.tape, h.output, h.size, h.block⟩
theorem dec_len (f : Nat) : ∀ u : Nat, u ≤ f → (Lib.decDigits u).length ≤ u + 1 := by
  induction f with
  | zero => intro u h; rw [Lib.decDigits, dif_pos (by omega)]; simp
  | succ f ih =>
    intro u h
    rw [Lib.decDigits]
    split
    · simp
    · have := ih (u / 10) (by omega)
      rw [List.length_append]
      simp only [List.length_cons, List.length_nil]
      omega
theorem add_arr (a b : List UInt8) (h : a.length + b.length ≤ 9223372036854775807) (w : World) : (Op.stringOp .add ⟨a.toArray⟩ ⟨b.toArray⟩).run Tryd.prog w = .ok (.string ⟨(a ++ b).toArray⟩) w := by
  rw [run_string_add_sum w _ _ (by simpa [ByteArray.size] using h), ByteArray.mk_append_mk]
theorem app_arr (a b : List UInt8) : (⟨a.toArray⟩ : ByteArray) ++ ⟨b.toArray⟩ = ⟨(a ++ b).toArray⟩ := by
  apply ByteArray.ext; simp
theorem decimal_small (n : Int) (w : World) (h0 : 0 ≤ n) (hlt : n < 10) :
    Calls Tryd.prog 43 #[.int .i64 n] w fun e w' => e = .returned (.string ⟨(Lib.decDigits n.toNat).toArray⟩) ∧ Below w.heap.size w w' := by
  have hd := Lib.decDigits_one (i := n.toNat) (by omega)
  rw [hd]
  have h3 : IntKind.i64.wrap (48 + n) = 48 + n := IntWalk.i64_in _ (by omega)
  have h4 : IntKind.u8.wrap (48 + n) = 48 + n := IntWalk.u8_in _ (by omega)
  have hc := one_byte (48 + n)
  have hk : (48 + n).toNat = 48 + n.toNat := by omega
  have HK := Lib.hid hk
  clear hk hd
  go_enter Tryd.func43, Tryd.ntmps43
  go_wp2
  go_ret
  exact ⟨ret_str (by rw [HK.out]), (Below.refl _ w).alloc (Nat.le_refl _) _⟩
theorem decimal_any (f : Nat) : ∀ (n : Int) (w : World), n.toNat ≤ f → 0 ≤ n → n ≤ 2147483647 →
    Calls Tryd.prog 43 #[.int .i64 n] w fun e w' => e = .returned (.string ⟨(Lib.decDigits n.toNat).toArray⟩) ∧ Below w.heap.size w w' := by
  induction f with
  | zero =>
    intro n w hf h0 hn
    exact decimal_small n w h0 (by omega)
  | succ f ih =>
    intro n w hf h0 hn
    by_cases hlt : n < 10
    · exact decimal_small n w h0 hlt
    · have IH := Lib.hid (fun w => ih (n / 10) w (by omega) (by omega) (by omega))
      clear ih
      have h1 : IntKind.i64.wrap (n.tdiv 10) = n / 10 := by rw [Int.tdiv_eq_ediv_of_nonneg h0]; exact IntWalk.i64_in _ (by omega)
      have h2 : n.tmod 10 = n % 10 := Int.tmod_eq_emod_of_nonneg h0
      have h3 : IntKind.i64.wrap (48 + n % 10) = 48 + n % 10 := IntWalk.i64_in _ (by omega)
      have h4 : IntKind.u8.wrap (48 + n % 10) = 48 + n % 10 := IntWalk.u8_in _ (by omega)
      have hc := one_byte (48 + n % 10)
      have hc2 := fun w : World => conv_after w (w.alloc (.cells #[.int .u8 (48 + n % 10)] 5)).drew (48 + n % 10) rfl
      have hd : Lib.decDigits n.toNat = Lib.decDigits (n / 10).toNat ++ [UInt8.ofNat (48 + n % 10).toNat] := by
        rw [Lib.decDigits, dif_neg (by omega)]
        have e1 : n.toNat / 10 = (n / 10).toNat := by omega
        have e2 : 48 + n.toNat % 10 = (48 + n % 10).toNat := by omega
        rw [e1, e2]
      have hadd := add_arr (Lib.decDigits (n / 10).toNat) [UInt8.ofNat (48 + n % 10).toNat] (by have := dec_len _ (n / 10).toNat (Nat.le_refl _); simp only [List.length_cons, List.length_nil]; omega)
      rw [← hd] at hadd
      clear hd
      go_enter Tryd.func43, Tryd.ntmps43
      go_wp2_with fail
      go_region_with ((go_at_call 43; refine (IH.out _).mono ?_; rintro e w1 ⟨rfl, hb⟩; (try have hc1 := conv_after w w1 (48 + n % 10) (hb.block w.heap.size (by simp)))))
      all_goals
        go_wp2
        go_ret
        refine ⟨rfl, ?_⟩
        first
          | exact below_in (undrew hb)
          | exact Below.alloc (undrew hb) (undrew hb).size _

/-! ### Word -/
def wordL (t : Tok) : List UInt8 := if t.kind = 1 ∨ t.kind = 3 then t.text else if t.kind = 2 then (if 0 ≤ t.num ∧ t.num ≤ 2147483647 then Lib.decDigits t.num.toNat else [48]) else []
theorem word_text {t : Tok} (h : t.kind = 1 ∨ t.kind = 3) : wordL t = t.text := if_pos h
theorem word_num {t : Tok} (h : t.kind = 2) (h1 : 0 ≤ t.num) (h2 : t.num ≤ 2147483647) : wordL t = Lib.decDigits t.num.toNat := by
  unfold wordL; rw [if_neg (by omega), if_pos h, if_pos ⟨h1, h2⟩]
theorem word_zero {t : Tok} (h : t.kind = 2) (h1 : ¬ (0 ≤ t.num ∧ t.num ≤ 2147483647)) : wordL t = [48] := by
  unfold wordL; rw [if_neg (by omega), if_pos h, if_neg h1]
theorem word_no {t : Tok} (h1 : t.kind ≠ 1) (h2 : t.kind ≠ 2) (h3 : t.kind ≠ 3) : wordL t = [] := by
  unfold wordL; rw [if_neg (by omega), if_neg h2]
abbrev Tab (w : World) : Prop := Lib.TabIs Tryd.prog w "internal/strconv.uint64pow10" .u64 Lib.pow10Tab
theorem tab_below {w w' : World} (h : Tab w) (hb : Below w.heap.size w w') : Tab w' := by
  unfold Tab Lib.TabIs World.var? at *
  cases hg : Tryd.prog.globalNamed "internal/strconv.uint64pow10" with
  | none => simp [hg] at h
  | some g =>
    simp only [hg, Option.bind_some] at h ⊢
    have hlt : g < w.heap.size := by
      rcases Nat.lt_or_ge g w.heap.size with h' | h'
      · exact h'
      · rw [Array.getElem?_eq_none h'] at h; simp at h
    rw [hb.block g hlt]
    exact h
theorem below_grow (w : World) (k : Nat) (os : Array Obj) : Below w.heap.size w (Sort.grow (w.drewN k) os) :=
  ⟨rfl, rfl, rfl, by show w.heap.size ≤ (w.heap ++ os).size; rw [Array.size_append]; omega, fun j hj => by
    show (w.heap ++ os)[j]? = w.heap[j]?
    rw [Array.getElem?_append_left hj]⟩
theorem itoa_any (n : Int) (h0 : 0 ≤ n) (h1 : n ≤ 2147483647) (w : World) (ht : Tab w) :
    Calls Tryd.prog 25 #[.int .i64 n] w fun e w' => e = .returned (.string (mk (Lib.decDigits n.toNat))) ∧ Below w.heap.size w w' := by
  refine (Tryd.strconv_Itoa n (by omega) (by omega) w ht).mono ?_
  rintro e w' ⟨rfl, k, os, rfl⟩
  refine ⟨?_, below_grow w k os⟩
  have : Lib.itoa n = Lib.decDigits n.toNat := if_neg (by omega)
  rw [this]; rfl
theorem kind_no {a b : Int} (h : a ≠ b) : (a == b) = false := by simp [h]
set_option maxHeartbeats 800000 in
theorem word_any (t : Tok) (w : World) (ht : Tab w) : Calls Tryd.prog 14 #[aggV t] w fun e w' => e = .returned (.string (mk (wordL t))) ∧ Below w.heap.size w w' := by
  obtain ⟨kind, num, line, text⟩ := t
  have HT := Lib.hid (fun o => tab_below ht ((Below.refl _ w).alloc (Nat.le_refl _) o))
  clear ht
  by_cases h1 : kind = 1
  · subst h1
    have hw := Lib.hid (word_text (t := ⟨1, num, line, text⟩) (.inl rfl))
    unfold aggV
    go_enter Tryd.func14, Tryd.ntmps14
    go_wp2
    go_ret
    exact ⟨ret_str (by rw [hw.out]), (Below.refl _ w).alloc (Nat.le_refl _) _⟩
  have b1 := kind_no h1
  by_cases h3 : kind = 3
  · subst h3
    have hw := Lib.hid (word_text (t := ⟨3, num, line, text⟩) (.inr rfl))
    unfold aggV
    go_enter Tryd.func14, Tryd.ntmps14
    go_wp2
    go_ret
    exact ⟨ret_str (by rw [hw.out]), (Below.refl _ w).alloc (Nat.le_refl _) _⟩
  have b3 := kind_no h3
  by_cases h2 : kind = 2
  · subst h2
    by_cases hn : 0 ≤ num ∧ num ≤ 2147483647
    · obtain ⟨hn0, hn1⟩ := hn
      have hw := Lib.hid (word_num (t := ⟨2, num, line, text⟩) rfl hn0 hn1)
      clear b1 b3 h1 h3
      unfold aggV
      go_enter Tryd.func14, Tryd.ntmps14
      go_wp2_with fail
      refine (itoa_any num hn0 hn1 _ (HT.out _)).mono ?_
      rintro e w1 ⟨rfl, hb⟩
      have hb0 := below_in hb
      clear hb
      go_wp2
      go_ret
      exact ⟨ret_str (by rw [hw.out]), hb0⟩
    · have hw := Lib.hid (word_zero (t := ⟨2, num, line, text⟩) rfl hn)
      clear b1 b3 h1 h3
      unfold aggV
      by_cases hn0 : 0 ≤ num
      · have hn1 : 2147483647 < num := by omega
        clear hn
        go_enter Tryd.func14, Tryd.ntmps14
        go_wp2
        go_ret
        exact ⟨ret_str (by rw [hw.out]; rfl), (Below.refl _ w).alloc (Nat.le_refl _) _⟩
      · clear hn
        go_enter Tryd.func14, Tryd.ntmps14
        go_wp2
        go_ret
        exact ⟨ret_str (by rw [hw.out]; rfl), (Below.refl _ w).alloc (Nat.le_refl _) _⟩
  · have b2 := kind_no h2
    have hw := Lib.hid (word_no (t := ⟨kind, num, line, text⟩) h1 h2 h3)
    clear h1 h2 h3
    unfold aggV
    go_enter Tryd.func14, Tryd.ntmps14
    go_wp2
    go_ret
    exact ⟨ret_str (by rw [hw.out]; rfl), (Below.refl _ w).alloc (Nat.le_refl _) _⟩
end Go.Proofs.YtbppfhlpielpcaaDoor
