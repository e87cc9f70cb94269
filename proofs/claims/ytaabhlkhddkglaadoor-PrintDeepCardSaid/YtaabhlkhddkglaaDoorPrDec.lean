/- The texts of numbers and signs, exactly: strconv.Itoa, and the specification's Decimal, number and Sign. No condition. -/
import Derived.Test.YtaabhlkhddkglaaDoorPrShaped
import Derived.Deep.RegionWith
import Derived.Laws.BytesArg
namespace Go.Proofs.YtaabhlkhddkglaaDoor
open Go.RowKit Go.Maps Go.WideMaps Go.WideElems Tk
set_option linter.unusedVariables false
set_option maxRecDepth 100000
theorem below_in {w w1 : World} {o : Obj} (h : Below (w.alloc o).heap.size (w.alloc o) w1) : Below w.heap.size w w1 :=
  ((Below.refl _ w).alloc (Nat.le_refl _) o).trans (h.mono (by simp))
theorem ret_str {a b : ByteArray} (h : a = b) : Ending.returned (.string a) = .returned (.string b) := by rw [h]
theorem one_byte (c : Int) : ∀ w : World, (convert 22 9 (.slice (some ⟨w.heap.size, 0, none⟩) 1 1)).run Tryd.prog (w.alloc (.cells #[.int .u8 c] 5)) = .ok (.string ⟨#[UInt8.ofNat c.toNat]⟩) (w.alloc (.cells #[.int .u8 c] 5)) := by
  intro w
  rw [run_convert_bytes_arg (w.alloc (.cells #[.int .u8 c] 5)) 22 5 Tryd.underlying22 Tryd.underlying5 w.heap.size 0 1 1 [c] rfl (fun i hi => by
    have : i = 0 := by omega
    subst this
    simp) 9 Tryd.underlying9]
  rfl
theorem conv_after (w w1 : World) (c : Int) (hb : w1.heap[w.heap.size]? = (w.alloc (.cells #[.int .u8 c] 5)).heap[w.heap.size]?) :
    (convert 22 9 (.slice (some ⟨w.heap.size, 0, none⟩) 1 1)).run Tryd.prog w1 = .ok (.string ⟨#[UInt8.ofNat c.toNat]⟩) w1 := by
  rw [run_convert_bytes_arg w1 22 5 Tryd.underlying22 Tryd.underlying5 w.heap.size 0 1 1 [c] rfl (fun i hi => by
    have : i = 0 := by omega
    subst this
    rw [World.cell?_of_block hb]
    simp) 9 Tryd.underlying9]
  rfl
theorem undrew {w w1 : World} (h : Below w.drew.heap.size w.drew w1) : Below w.heap.size w w1 := ⟨h.os, h.tape, h.output, h.size, h.block⟩
theorem dec_len (f : Nat) : ∀ u : Nat, u ≤ f → (Lib.decDigits u).length ≤ u + 1 := by
  induction f with
  | zero => intro u h; rw [Lib.decDigits, dif_pos (by omega)]; simp
  | succ f ih =>
    intro u h
    rw [Lib.decDigits]
    split
    · simp
    · have := ih (u / 10) (by omega)
      rw [List.length_append]
      simp only [List.length_cons, List.length_nil]
      omega
theorem add_arr (a b : List UInt8) (h : a.length + b.length ≤ 9223372036854775807) (w : World) : (Op.stringOp .add ⟨a.toArray⟩ ⟨b.toArray⟩).run Tryd.prog w = .ok (.string ⟨(a ++ b).toArray⟩) w := by
  rw [run_string_add_sum w _ _ (by simpa [ByteArray.size] using h), ByteArray.mk_append_mk]
theorem app_arr (a b : List UInt8) : (⟨a.toArray⟩ : ByteArray) ++ ⟨b.toArray⟩ = ⟨(a ++ b).toArray⟩ := by
  apply ByteArray.ext; simp
theorem decimal_small (n : Int) (w : World) (h0 : 0 ≤ n) (hlt : n < 10) :
    Calls Tryd.prog 35 #[.int .i64 n] w fun e w' => e = .returned (.string ⟨(Lib.decDigits n.toNat).toArray⟩) ∧ Below w.heap.size w w' := by
  have hd := Lib.decDigits_one (i := n.toNat) (by omega)
  rw [hd]
  have h3 : IntKind.i64.wrap (48 + n) = 48 + n := IntWalk.i64_in _ (by omega)
  have h4 : IntKind.u8.wrap (48 + n) = 48 + n := IntWalk.u8_in _ (by omega)
  have hc := one_byte (48 + n)
  have hk : (48 + n).toNat = 48 + n.toNat := by omega
  have HK := Lib.hid hk
  clear hk hd
  go_enter Tryd.func35, Tryd.ntmps35
  go_wp2
  go_ret
  exact ⟨ret_str (by rw [HK.out]), (Below.refl _ w).alloc (Nat.le_refl _) _⟩
theorem decimal_any (f : Nat) : ∀ (n : Int) (w : World), n.toNat ≤ f → 0 ≤ n → n ≤ 2147483647 →
    Calls Tryd.prog 35 #[.int .i64 n] w fun e w' => e = .returned (.string ⟨(Lib.decDigits n.toNat).toArray⟩) ∧ Below w.heap.size w w' := by
  induction f with
  | zero =>
    intro n w hf h0 hn
    exact decimal_small n w h0 (by omega)
  | succ f ih =>
    intro n w hf h0 hn
    by_cases hlt : n < 10
    · exact decimal_small n w h0 hlt
    · have IH := Lib.hid (fun w => ih (n / 10) w (by omega) (by omega) (by omega))
      clear ih
      have h1 : IntKind.i64.wrap (n.tdiv 10) = n / 10 := by rw [Int.tdiv_eq_ediv_of_nonneg h0]; exact IntWalk.i64_in _ (by omega)
      have h2 : n.tmod 10 = n % 10 := Int.tmod_eq_emod_of_nonneg h0
      have h3 : IntKind.i64.wrap (48 + n % 10) = 48 + n % 10 := IntWalk.i64_in _ (by omega)
      have h4 : IntKind.u8.wrap (48 + n % 10) = 48 + n % 10 := IntWalk.u8_in _ (by omega)
      have hc := one_byte (48 + n % 10)
      have hc2 := fun w : World => conv_after w (w.alloc (.cells #[.int .u8 (48 + n % 10)] 5)).drew (48 + n % 10) rfl
      have hd : Lib.decDigits n.toNat = Lib.decDigits (n / 10).toNat ++ [UInt8.ofNat (48 + n % 10).toNat] := by
        rw [Lib.decDigits, dif_neg (by omega)]
        have e1 : n.toNat / 10 = (n / 10).toNat := by omega
        have e2 : 48 + n.toNat % 10 = (48 + n % 10).toNat := by omega
        rw [e1, e2]
      have hadd := add_arr (Lib.decDigits (n / 10).toNat) [UInt8.ofNat (48 + n % 10).toNat] (by have := dec_len _ (n / 10).toNat (Nat.le_refl _); simp only [List.length_cons, List.length_nil]; omega)
      rw [← hd] at hadd
      clear hd
      go_enter Tryd.func35, Tryd.ntmps35
      go_wp2_with fail
      go_region_with ((go_at_call 35; refine (IH.out _).mono ?_; rintro e w1 ⟨rfl, hb⟩; (try have hc1 := conv_after w w1 (48 + n % 10) (hb.block w.heap.size (by simp)))))
      all_goals
        go_wp2
        go_ret
        refine ⟨rfl, ?_⟩
        first
          | exact below_in (undrew hb)
          | exact Below.alloc (undrew hb) (undrew hb).size _

abbrev Tab (w : World) : Prop := Lib.TabIs Tryd.prog w "internal/strconv.uint64pow10" .u64 Lib.pow10Tab
theorem tab_below {w w' : World} (h : Tab w) (hb : Below w.heap.size w w') : Tab w' := by
  unfold Tab Lib.TabIs World.var? at *
  cases hg : Tryd.prog.globalNamed "internal/strconv.uint64pow10" with
  | none => simp [hg] at h
  | some g =>
    simp only [hg, Option.bind_some] at h ⊢
    have hlt : g < w.heap.size := by
      rcases Nat.lt_or_ge g w.heap.size with h' | h'
      · exact h'
      · rw [Array.getElem?_eq_none h'] at h; simp at h
    rw [hb.block g hlt]
    exact h
theorem below_grow (w : World) (k : Nat) (os : Array Obj) : Below w.heap.size w (Sort.grow (w.drewN k) os) :=
  ⟨rfl, rfl, rfl, by show w.heap.size ≤ (w.heap ++ os).size; rw [Array.size_append]; omega, fun j hj => by
    show (w.heap ++ os)[j]? = w.heap[j]?
    rw [Array.getElem?_append_left hj]⟩
theorem dec_size (k : Nat) : ∀ u : Nat, u < 10 ^ (k + 1) → (Lib.decDigits u).length ≤ k + 1 := by
  induction k with
  | zero => intro u h; rw [Lib.decDigits_one (by simpa using h)]; simp
  | succ k ih =>
    intro u h
    rw [Lib.decDigits]
    split
    · simp
    · have := ih (u / 10) (by rw [Nat.pow_succ] at h; omega)
      rw [List.length_append]
      simp only [List.length_cons, List.length_nil]
      omega
/-- The text of a number. -/
def itB (n : Int) : ByteArray := ⟨(Lib.itoa n).toArray⟩
theorem itoa_ok (n : Int) (h0 : -9223372036854775808 ≤ n) (h1 : n ≤ 9223372036854775807) (w : World) (ht : Tab w) :
    Calls Tryd.prog 20 #[.int .i64 n] w fun e w' => e = .returned (.string (itB n)) ∧ Below w.heap.size w w' := by
  refine (Tryd.strconv_Itoa n h0 h1 w ht).mono ?_
  rintro e w' ⟨rfl, k, os, rfl⟩
  exact ⟨rfl, below_grow w k os⟩
theorem itB_pos {n : Int} (h : ¬ n < 0) : itB n = ⟨(Lib.decDigits n.toNat).toArray⟩ := by
  unfold itB Lib.itoa
  rw [if_neg h]
theorem itB_neg {n : Int} (h : n < 0) : itB n = ⟨#[45]⟩ ++ ⟨(Lib.decDigits (-n).toNat).toArray⟩ := by
  unfold itB Lib.itoa
  rw [if_pos h]
  have : n.natAbs = (-n).toNat := by omega
  rw [this]
  exact (app_arr [45] _).symm
theorem itB_size {n : Int} (h : -2147483647 ≤ n ∧ n ≤ 2147483647) : (itB n).size ≤ 11 := by
  by_cases hn : n < 0
  · rw [itB_neg hn, ByteArray.size_append]
    have := dec_size 9 (-n).toNat (by omega)
    show 1 + (Lib.decDigits (-n).toNat).toArray.size ≤ 11
    simp
    omega
  · rw [itB_pos hn]
    have := dec_size 9 n.toNat (by omega)
    show (Lib.decDigits n.toNat).toArray.size ≤ 11
    simp
    omega
theorem cat' (a b : ByteArray) (h : a.size + b.size ≤ 100000) : ∀ W : World, (Op.stringOp .add a b).run Tryd.prog W = .ok (.string (a ++ b)) W :=
  fun W => run_string_add_sum W a b (by omega)
set_option maxHeartbeats 1000000 in
theorem number_ok (n : Int) (h : -2147483647 ≤ n ∧ n ≤ 2147483647) (w : World) :
    Calls Tryd.prog 27 #[.int .i64 n] w fun e w' => e = .returned (.string (itB n)) ∧ Below w.heap.size w w' := by
  obtain ⟨h1, h2⟩ := h
  by_cases hn : n < 0
  · have hz := dec_size 9 (-n).toNat (by omega)
    have hq := cat' ⟨#[45]⟩ ⟨(Lib.decDigits (-n).toNat).toArray⟩ (by show 1 + (Lib.decDigits (-n).toNat).toArray.size ≤ 100000; simp; omega)
    rw [← itB_neg hn] at hq
    have HD := Lib.hid (fun (W : World) => decimal_any (-n).toNat (-n) W (Nat.le_refl _) (by omega) (by omega))
    clear hz
    generalize itB n = r at *
    generalize (⟨(Lib.decDigits (-n).toNat).toArray⟩ : ByteArray) = s at *
    go_enter Tryd.func27, Tryd.ntmps27
    go_wp2_with fail
    refine (HD.out _).mono ?_
    rintro e w1 ⟨rfl, hb⟩
    have HB := Lib.hid hb
    clear hb
    go_wp2_with fail
    go_ret
    exact ⟨rfl, HB.out⟩
  · have HD := Lib.hid (fun (W : World) => decimal_any n.toNat n W (Nat.le_refl _) (by omega) (by omega))
    rw [itB_pos hn]
    generalize (⟨(Lib.decDigits n.toNat).toArray⟩ : ByteArray) = s at *
    go_enter Tryd.func27, Tryd.ntmps27
    go_wp2_with fail
    refine (HD.out _).mono ?_
    rintro e w1 ⟨rfl, hb⟩
    have HB := Lib.hid hb
    clear hb
    go_wp2_with fail
    go_ret
    exact ⟨rfl, HB.out⟩
theorem sgn_size (n : Int) : (sgnB n).size ≤ 2 := by
  unfold sgnB
  split <;> decide
end Go.Proofs.YtaabhlkhddkglaaDoor
