/- slices.IndexFunc, slices.ContainsFunc and every, at the types of a graph's lists, with an invariant that the predicate keeps. No condition. -/
import Derived.Test.YtojnhdkclabkgaaPlLsts
import Derived.Test.YtojnhdkclabkgaaGrMath
import Derived.Shelf.Abstract
import Derived.Laws.EntriesVeiled
namespace Go.Proofs.Ytojnhdkclabkgaa
open Go.RowKit
set_option linter.unusedVariables false
set_option linter.unusedSimpArgs false
attribute [local go_sem] y_undef
/-- The first place below n at which p holds, or -1. -/
def Fst (p : Nat → Bool) (n : Nat) (z : Int) : Prop := (z = -1 ∧ ∀ j, j < n → p j = false) ∨ ∃ k : Nat, k < n ∧ z = k ∧ p k = true ∧ ∀ j, j < k → p j = false
theorem Fst.any {p : Nat → Bool} {n : Nat} {z : Int} (h : Fst p n z) : decide (0 ≤ z) = (List.range n).any p := by
  rcases h with ⟨rfl, h⟩ | ⟨k, hk, rfl, h, _⟩
  · symm
    simp only [show ¬ (0 : Int) ≤ -1 by decide, decide_false, List.any_eq_false, List.mem_range]
    intro j hj
    rw [h j hj]
    decide
  · symm
    rw [show decide (0 ≤ (k : Int)) = true by simp, List.any_eq_true]
    exact ⟨k, by simpa using hk, h⟩
/-- From block b on nothing that is there has turned. -/
def Sfe (b : Nat) (w w' : World) : Prop := w.heap.size ≤ w'.heap.size ∧ ∀ j, b ≤ j → j < w.heap.size → w'.heap[j]? = w.heap[j]?
theorem Sfe.of_below {b : Nat} {w w' : World} (h : Below w.heap.size w w') : Sfe b w w' := ⟨h.size, fun j _ hj => h.block j hj⟩
theorem Sfe.trans {b : Nat} {w a c : World} (h : Sfe b w a) (k : Sfe b a c) : Sfe b w c := ⟨Nat.le_trans h.1 k.1, fun j hb hj => (k.2 j hb (Nat.lt_of_lt_of_le hj h.1)).trans (h.2 j hb hj)⟩
theorem Sfe.cell {b g o : Nat} {w w' : World} (h : Sfe b w w') (hg : b ≤ g) (hs : g < w.heap.size) : w'.cell? ⟨g, o, none⟩ = w.cell? ⟨g, o, none⟩ := by
  unfold World.cell?
  rw [h.2 g hg hs]
set_option maxHeartbeats 2000000 in
theorem idxIn_any (F : Nat) (lb : Array Value) (eF : ∀ args w, (callFunc F args).run Try.prog w = .ok (.enter F args) w) (A : Option Addr) (n c : Nat) (s : Nat → ByteArray) (x y : Nat → Int) (w : World) (q : Nat → Bool) (I : Nat → World → Prop) (hm : n ≤ maxLen) (h0 : I 0 w)
    (hE : ∀ (k : Nat) (W : World), I k W → k < n → ∃ b off, A = some ⟨b, off, none⟩ ∧ W.cell? ⟨b, off + k * 3, none⟩ = some (.string (s k)) ∧ W.cell? ⟨b, off + k * 3 + 1, none⟩ = some (.int .i64 (x k)) ∧ W.cell? ⟨b, off + k * 3 + 2, none⟩ = some (.int .i64 (y k)))
    (hP : ∀ (k : Nat) (W : World), I k W → k < n → Calls Try.prog F (#[.agg #[.string (s k), .int .i64 (x k), .int .i64 (y k)]] ++ lb) W fun e w' => e = .returned (.bool (q k)) ∧ I (k + 1) w') :
    Calls Try.prog 143 #[.slice A n c, .func (.func F) #[] lb] w fun e w' => ∃ z : Int, e = .returned (.int .i64 z) ∧ Fst q n z ∧ ∃ k, I k w' := by
  have HO := Lib.hid hE
  have HP := Lib.hid hP
  have H0 := Lib.hid h0
  unfold maxLen at hm
  clear h0 hE hP
  go_enter Try.func143, Try.ntmps143
  go_wp2
  go_loopw [5, 8] (fun _ i wr => ∃ k : Nat, k ≤ n ∧ i = .int .i64 k ∧ Hid (I k wr) ∧ Hid (∀ j, j < k → q j = false)) (fun _ i _ => n - (intOf i).toNat)
  case atStart => exact ⟨0, Nat.zero_le _, rfl, Lib.hid H0.out, Lib.hid fun j hj => absurd hj (Nat.not_lt_zero _)⟩
  case round =>
    obtain ⟨k, hk, rfl, BW, HF⟩ := hrel
    by_cases hlt : k < n
    · have hlt' : (k : Int) < n := by omega
      obtain ⟨b, off, rfl, hx0, hx1, hx2⟩ := HO.out k wr BW.out hlt
      have hcall := HP.out k wr BW.out hlt
      have HPk := Lib.hid (rfl : q k = q k)
      clear HP HO
      generalize s k = g0 at *
      generalize x k = g1 at *
      generalize y k = g2 at *
      cases hq' : q k with
      | true =>
        rw [hq'] at hcall
        have HQ := Lib.hid hq'
        clear hq'
        go_wp2_with (go_at_fn F; refine hcall.mono ?_; rintro e w' ⟨rfl, hb'⟩)
        go_ret
        exact ⟨(k : Int), rfl, .inr ⟨k, hlt, rfl, HQ.out, HF.out⟩, k + 1, hb'⟩
      | false =>
        rw [hq'] at hcall
        have HQ := Lib.hid hq'
        clear hq'
        go_wp2_with (go_at_fn F; refine hcall.mono ?_; rintro e w' ⟨rfl, hb'⟩)
        go_roundw
        case rel => exact ⟨k + 1, by omega, by first | rfl | go_num, Lib.hid hb', Lib.hid fun j hj => by rcases Nat.lt_succ_iff_lt_or_eq.1 hj with h | rfl; exact HF.out j h; exact HQ.out⟩
        case measure => simp [intOf]; omega
    · have hlt' : ¬ (k : Int) < n := by omega
      obtain rfl : k = n := by omega
      go_wp2
      go_ret
      exact ⟨-1, rfl, .inl ⟨rfl, HF.out⟩, k, BW.out⟩
theorem hasIn_any (F : Nat) (lb : Array Value) (eF : ∀ args w, (callFunc F args).run Try.prog w = .ok (.enter F args) w) (A : Option Addr) (n c : Nat) (s : Nat → ByteArray) (x y : Nat → Int) (w : World) (q : Nat → Bool) (I : Nat → World → Prop) (hm : n ≤ maxLen) (h0 : I 0 w)
    (hE : ∀ (k : Nat) (W : World), I k W → k < n → ∃ b off, A = some ⟨b, off, none⟩ ∧ W.cell? ⟨b, off + k * 3, none⟩ = some (.string (s k)) ∧ W.cell? ⟨b, off + k * 3 + 1, none⟩ = some (.int .i64 (x k)) ∧ W.cell? ⟨b, off + k * 3 + 2, none⟩ = some (.int .i64 (y k)))
    (hP : ∀ (k : Nat) (W : World), I k W → k < n → Calls Try.prog F (#[.agg #[.string (s k), .int .i64 (x k), .int .i64 (y k)]] ++ lb) W fun e w' => e = .returned (.bool (q k)) ∧ I (k + 1) w') (r : Bool) (hr : (List.range n).any q = r) :
    Calls Try.prog 112 #[.slice A n c, .func (.func F) #[] lb] w fun e w' => e = .returned (.bool r) ∧ ∃ k, I k w' := by
  have HC := Lib.hid (idxIn_any F lb eF A n c s x y w q I hm h0 hE hP)
  have HR := Lib.hid hr
  clear hP hm hr h0 hE
  go_enter Try.func112, Try.ntmps112
  go_wp2_with (go_at_call 143; refine HC.out.mono ?_; rintro e w' ⟨z, rfl, hz, k, hb⟩)
  go_ret
  exact ⟨ret_bool (by rw [← HR.out, ← hz.any]), k, hb⟩
theorem ent_evIn (args : Array Value) (w : World) : (callFunc 113 args).run Try.prog w = .ok (.enter 113 args) w := enters_of Try.func113 (by kernel_rfl) rfl args w
theorem notIn_any (F : Nat) (lb : Array Value) (eF : ∀ args w, (callFunc F args).run Try.prog w = .ok (.enter F args) w) (s : ByteArray) (x y : Int) (B : Nat) (W : World) (hB : W.cell? ⟨B, 0, none⟩ = some (.func (.func F) #[] lb)) (r : Bool) (Q : World → Prop)
    (hP : Calls Try.prog F (#[.agg #[.string s, .int .i64 x, .int .i64 y]] ++ lb) (W.alloc (.cells #[.string s, .int .i64 x, .int .i64 y] 57)) fun e w' => e = .returned (.bool r) ∧ Q w') :
    Calls Try.prog 113 #[.agg #[.string s, .int .i64 x, .int .i64 y], .pointer (some ⟨B, 0, none⟩)] W fun e w' => e = .returned (.bool (!r)) ∧ Q w' := by
  have HP := Lib.hid hP
  have hne : B < W.heap.size := World.block_lt_of_cell? W _ hB
  clear hP
  cases r
  all_goals
    go_enter Try.func113, Try.ntmps113
    go_wp2_with (go_at_fn F; refine HP.out.mono ?_; rintro e w' ⟨rfl, hb'⟩)
    go_ret
    exact ⟨rfl, hb'⟩
theorem everyIn_any (F : Nat) (lb : Array Value) (eF : ∀ args w, (callFunc F args).run Try.prog w = .ok (.enter F args) w) (A : Option Addr) (n c : Nat) (s : Nat → ByteArray) (x y : Nat → Int) (w : World) (q : Nat → Bool) (I : Nat → World → Prop) (hm : n ≤ maxLen) (h0 : I 0 w)
    (hE : ∀ (k : Nat) (W : World), I k W → k < n → ∃ b off, A = some ⟨b, off, none⟩ ∧ W.cell? ⟨b, off + k * 3, none⟩ = some (.string (s k)) ∧ W.cell? ⟨b, off + k * 3 + 1, none⟩ = some (.int .i64 (x k)) ∧ W.cell? ⟨b, off + k * 3 + 2, none⟩ = some (.int .i64 (y k)))
    (hK : ∀ k W W', I k W → Below W.heap.size W W' → I k W')
    (hP : ∀ (k : Nat) (W : World), I k W → k < n → Calls Try.prog F (#[.agg #[.string (s k), .int .i64 (x k), .int .i64 (y k)]] ++ lb) W fun e w' => e = .returned (.bool (q k)) ∧ I (k + 1) w' ∧ Sfe w.heap.size W w') (r : Bool) (hr : (List.range n).all q = r) :
    Calls Try.prog 73 #[.slice A n c, .func (.func F) #[] lb] w fun e w' => e = .returned (.bool r) ∧ ∃ k, I k w' := by
  subst hr
  rw [← all_not_any]
  obtain ⟨FT, hFT⟩ : ∃ FT, FT = Obj.cells #[.func (.func F) #[] lb] 113 := ⟨_, rfl⟩
  have hal : Below w.heap.size w (w.alloc FT) := (Below.refl _ _).alloc (Nat.le_refl _) _
  have HC := Lib.hid fun (r : Bool) (hr : (List.range n).any (fun k => !(q k)) = r) =>
    hasIn_any 113 #[.pointer (some ⟨w.heap.size, 0, none⟩)] ent_evIn A n c s x y (w.alloc FT) (fun k => !(q k)) (fun k W => I k W ∧ w.heap.size < W.heap.size ∧ W.heap[w.heap.size]? = some FT) hm
      ⟨hK 0 w _ h0 hal, by simp, heap_alloc_new w _⟩ (fun k W hI hk => hE k W hI.1 hk)
      (fun k W hI hk => by
        subst hFT
        have hal' : Below W.heap.size W (W.alloc (.cells #[.string (s k), .int .i64 (x k), .int .i64 (y k)] 57)) := (Below.refl _ _).alloc (Nat.le_refl _) _
        exact notIn_any F lb eF (s k) (x k) (y k) w.heap.size W (by have := cell_of_row W w.heap.size 0 _ _ _ hI.2.2; simpa using this) (q k) _ ((hP k _ (hK k W _ hI.1 hal') hk).mono fun e w' h => ⟨h.1, h.2.1, Nat.lt_of_lt_of_le hI.2.1 (Nat.le_trans hal'.size h.2.2.1), (h.2.2.2 _ (Nat.le_refl _) (Nat.lt_of_lt_of_le hI.2.1 hal'.size)).trans ((hal'.block _ hI.2.1).trans hI.2.2)⟩)) r hr
  clear hE hP h0 hK hal
  subst hFT
  cases h2 : (List.range n).any fun k => !(q k)
  all_goals
    have H2 := Lib.hid h2
    clear h2
    go_enter Try.func73, Try.ntmps73
    go_wp2_with (go_at_call 112; refine (HC.out _ H2.out).mono ?_; rintro e w' ⟨rfl, k, hb⟩)
    go_ret
    exact ⟨rfl, k, hb.1⟩
set_option maxHeartbeats 2000000 in
theorem idxAr_any (F : Nat) (lb : Array Value) (eF : ∀ args w, (callFunc F args).run Try.prog w = .ok (.enter F args) w) (A : Option Addr) (n c : Nat) (s : Nat → ByteArray) (x : Nat → Int) (w : World) (q : Nat → Bool) (I : Nat → World → Prop) (hm : n ≤ maxLen) (h0 : I 0 w)
    (hE : ∀ (k : Nat) (W : World), I k W → k < n → ∃ b off, A = some ⟨b, off, none⟩ ∧ W.cell? ⟨b, off + k * 2, none⟩ = some (.string (s k)) ∧ W.cell? ⟨b, off + k * 2 + 1, none⟩ = some (.int .i64 (x k)))
    (hP : ∀ (k : Nat) (W : World), I k W → k < n → Calls Try.prog F (#[.agg #[.string (s k), .int .i64 (x k)]] ++ lb) W fun e w' => e = .returned (.bool (q k)) ∧ I (k + 1) w') :
    Calls Try.prog 144 #[.slice A n c, .func (.func F) #[] lb] w fun e w' => ∃ z : Int, e = .returned (.int .i64 z) ∧ Fst q n z ∧ ∃ k, I k w' := by
  have HO := Lib.hid hE
  have HP := Lib.hid hP
  have H0 := Lib.hid h0
  unfold maxLen at hm
  clear h0 hE hP
  go_enter Try.func144, Try.ntmps144
  go_wp2
  go_loopw [5, 8] (fun _ i wr => ∃ k : Nat, k ≤ n ∧ i = .int .i64 k ∧ Hid (I k wr) ∧ Hid (∀ j, j < k → q j = false)) (fun _ i _ => n - (intOf i).toNat)
  case atStart => exact ⟨0, Nat.zero_le _, rfl, Lib.hid H0.out, Lib.hid fun j hj => absurd hj (Nat.not_lt_zero _)⟩
  case round =>
    obtain ⟨k, hk, rfl, BW, HF⟩ := hrel
    by_cases hlt : k < n
    · have hlt' : (k : Int) < n := by omega
      obtain ⟨b, off, rfl, hx0, hx1⟩ := HO.out k wr BW.out hlt
      have hcall := HP.out k wr BW.out hlt
      have HPk := Lib.hid (rfl : q k = q k)
      clear HP HO
      generalize s k = g0 at *
      generalize x k = g1 at *
      cases hq' : q k with
      | true =>
        rw [hq'] at hcall
        have HQ := Lib.hid hq'
        clear hq'
        go_wp2_with (go_at_fn F; refine hcall.mono ?_; rintro e w' ⟨rfl, hb'⟩)
        go_ret
        exact ⟨(k : Int), rfl, .inr ⟨k, hlt, rfl, HQ.out, HF.out⟩, k + 1, hb'⟩
      | false =>
        rw [hq'] at hcall
        have HQ := Lib.hid hq'
        clear hq'
        go_wp2_with (go_at_fn F; refine hcall.mono ?_; rintro e w' ⟨rfl, hb'⟩)
        go_roundw
        case rel => exact ⟨k + 1, by omega, by first | rfl | go_num, Lib.hid hb', Lib.hid fun j hj => by rcases Nat.lt_succ_iff_lt_or_eq.1 hj with h | rfl; exact HF.out j h; exact HQ.out⟩
        case measure => simp [intOf]; omega
    · have hlt' : ¬ (k : Int) < n := by omega
      obtain rfl : k = n := by omega
      go_wp2
      go_ret
      exact ⟨-1, rfl, .inl ⟨rfl, HF.out⟩, k, BW.out⟩
theorem hasAr_any (F : Nat) (lb : Array Value) (eF : ∀ args w, (callFunc F args).run Try.prog w = .ok (.enter F args) w) (A : Option Addr) (n c : Nat) (s : Nat → ByteArray) (x : Nat → Int) (w : World) (q : Nat → Bool) (I : Nat → World → Prop) (hm : n ≤ maxLen) (h0 : I 0 w)
    (hE : ∀ (k : Nat) (W : World), I k W → k < n → ∃ b off, A = some ⟨b, off, none⟩ ∧ W.cell? ⟨b, off + k * 2, none⟩ = some (.string (s k)) ∧ W.cell? ⟨b, off + k * 2 + 1, none⟩ = some (.int .i64 (x k)))
    (hP : ∀ (k : Nat) (W : World), I k W → k < n → Calls Try.prog F (#[.agg #[.string (s k), .int .i64 (x k)]] ++ lb) W fun e w' => e = .returned (.bool (q k)) ∧ I (k + 1) w') (r : Bool) (hr : (List.range n).any q = r) :
    Calls Try.prog 115 #[.slice A n c, .func (.func F) #[] lb] w fun e w' => e = .returned (.bool r) ∧ ∃ k, I k w' := by
  have HC := Lib.hid (idxAr_any F lb eF A n c s x w q I hm h0 hE hP)
  have HR := Lib.hid hr
  clear hP hm hr h0 hE
  go_enter Try.func115, Try.ntmps115
  go_wp2_with (go_at_call 144; refine HC.out.mono ?_; rintro e w' ⟨z, rfl, hz, k, hb⟩)
  go_ret
  exact ⟨ret_bool (by rw [← HR.out, ← hz.any]), k, hb⟩
theorem ent_evAr (args : Array Value) (w : World) : (callFunc 116 args).run Try.prog w = .ok (.enter 116 args) w := enters_of Try.func116 (by kernel_rfl) rfl args w
theorem notAr_any (F : Nat) (lb : Array Value) (eF : ∀ args w, (callFunc F args).run Try.prog w = .ok (.enter F args) w) (s : ByteArray) (x : Int) (B : Nat) (W : World) (hB : W.cell? ⟨B, 0, none⟩ = some (.func (.func F) #[] lb)) (r : Bool) (Q : World → Prop)
    (hP : Calls Try.prog F (#[.agg #[.string s, .int .i64 x]] ++ lb) (W.alloc (.cells #[.string s, .int .i64 x] 30)) fun e w' => e = .returned (.bool r) ∧ Q w') :
    Calls Try.prog 116 #[.agg #[.string s, .int .i64 x], .pointer (some ⟨B, 0, none⟩)] W fun e w' => e = .returned (.bool (!r)) ∧ Q w' := by
  have HP := Lib.hid hP
  have hne : B < W.heap.size := World.block_lt_of_cell? W _ hB
  clear hP
  cases r
  all_goals
    go_enter Try.func116, Try.ntmps116
    go_wp2_with (go_at_fn F; refine HP.out.mono ?_; rintro e w' ⟨rfl, hb'⟩)
    go_ret
    exact ⟨rfl, hb'⟩
theorem everyAr_any (F : Nat) (lb : Array Value) (eF : ∀ args w, (callFunc F args).run Try.prog w = .ok (.enter F args) w) (A : Option Addr) (n c : Nat) (s : Nat → ByteArray) (x : Nat → Int) (w : World) (q : Nat → Bool) (I : Nat → World → Prop) (hm : n ≤ maxLen) (h0 : I 0 w)
    (hE : ∀ (k : Nat) (W : World), I k W → k < n → ∃ b off, A = some ⟨b, off, none⟩ ∧ W.cell? ⟨b, off + k * 2, none⟩ = some (.string (s k)) ∧ W.cell? ⟨b, off + k * 2 + 1, none⟩ = some (.int .i64 (x k)))
    (hK : ∀ k W W', I k W → Below W.heap.size W W' → I k W')
    (hP : ∀ (k : Nat) (W : World), I k W → k < n → Calls Try.prog F (#[.agg #[.string (s k), .int .i64 (x k)]] ++ lb) W fun e w' => e = .returned (.bool (q k)) ∧ I (k + 1) w' ∧ Sfe w.heap.size W w') (r : Bool) (hr : (List.range n).all q = r) :
    Calls Try.prog 76 #[.slice A n c, .func (.func F) #[] lb] w fun e w' => e = .returned (.bool r) ∧ ∃ k, I k w' := by
  subst hr
  rw [← all_not_any]
  obtain ⟨FT, hFT⟩ : ∃ FT, FT = Obj.cells #[.func (.func F) #[] lb] 115 := ⟨_, rfl⟩
  have hal : Below w.heap.size w (w.alloc FT) := (Below.refl _ _).alloc (Nat.le_refl _) _
  have HC := Lib.hid fun (r : Bool) (hr : (List.range n).any (fun k => !(q k)) = r) =>
    hasAr_any 116 #[.pointer (some ⟨w.heap.size, 0, none⟩)] ent_evAr A n c s x (w.alloc FT) (fun k => !(q k)) (fun k W => I k W ∧ w.heap.size < W.heap.size ∧ W.heap[w.heap.size]? = some FT) hm
      ⟨hK 0 w _ h0 hal, by simp, heap_alloc_new w _⟩ (fun k W hI hk => hE k W hI.1 hk)
      (fun k W hI hk => by
        subst hFT
        have hal' : Below W.heap.size W (W.alloc (.cells #[.string (s k), .int .i64 (x k)] 30)) := (Below.refl _ _).alloc (Nat.le_refl _) _
        exact notAr_any F lb eF (s k) (x k) w.heap.size W (by have := cell_of_row W w.heap.size 0 _ _ _ hI.2.2; simpa using this) (q k) _ ((hP k _ (hK k W _ hI.1 hal') hk).mono fun e w' h => ⟨h.1, h.2.1, Nat.lt_of_lt_of_le hI.2.1 (Nat.le_trans hal'.size h.2.2.1), (h.2.2.2 _ (Nat.le_refl _) (Nat.lt_of_lt_of_le hI.2.1 hal'.size)).trans ((hal'.block _ hI.2.1).trans hI.2.2)⟩)) r hr
  clear hE hP h0 hK hal
  subst hFT
  cases h2 : (List.range n).any fun k => !(q k)
  all_goals
    have H2 := Lib.hid h2
    clear h2
    go_enter Try.func76, Try.ntmps76
    go_wp2_with (go_at_call 115; refine (HC.out _ H2.out).mono ?_; rintro e w' ⟨rfl, k, hb⟩)
    go_ret
    exact ⟨rfl, k, hb.1⟩
set_option maxHeartbeats 2000000 in
theorem idxBl_any (F : Nat) (lb : Array Value) (eF : ∀ args w, (callFunc F args).run Try.prog w = .ok (.enter F args) w) (A : Option Addr) (n c : Nat) (a1 a2 : Nat → Option Addr) (n1 c1 n2 c2 : Nat → Nat) (x : Nat → Int) (w : World) (q : Nat → Bool) (I : Nat → World → Prop) (hm : n ≤ maxLen) (h0 : I 0 w)
    (hE : ∀ (k : Nat) (W : World), I k W → k < n → ∃ b off, A = some ⟨b, off, none⟩ ∧ W.cell? ⟨b, off + k * 3, none⟩ = some (.slice (a1 k) (n1 k) (c1 k)) ∧ W.cell? ⟨b, off + k * 3 + 1, none⟩ = some (.int .i64 (x k)) ∧ W.cell? ⟨b, off + k * 3 + 2, none⟩ = some (.slice (a2 k) (n2 k) (c2 k)))
    (hP : ∀ (k : Nat) (W : World), I k W → k < n → Calls Try.prog F (#[.agg #[.slice (a1 k) (n1 k) (c1 k), .int .i64 (x k), .slice (a2 k) (n2 k) (c2 k)]] ++ lb) W fun e w' => e = .returned (.bool (q k)) ∧ I (k + 1) w') :
    Calls Try.prog 145 #[.slice A n c, .func (.func F) #[] lb] w fun e w' => ∃ z : Int, e = .returned (.int .i64 z) ∧ Fst q n z ∧ ∃ k, I k w' := by
  have HO := Lib.hid hE
  have HP := Lib.hid hP
  have H0 := Lib.hid h0
  unfold maxLen at hm
  clear h0 hE hP
  go_enter Try.func145, Try.ntmps145
  go_wp2
  go_loopw [5, 8] (fun _ i wr => ∃ k : Nat, k ≤ n ∧ i = .int .i64 k ∧ Hid (I k wr) ∧ Hid (∀ j, j < k → q j = false)) (fun _ i _ => n - (intOf i).toNat)
  case atStart => exact ⟨0, Nat.zero_le _, rfl, Lib.hid H0.out, Lib.hid fun j hj => absurd hj (Nat.not_lt_zero _)⟩
  case round =>
    obtain ⟨k, hk, rfl, BW, HF⟩ := hrel
    by_cases hlt : k < n
    · have hlt' : (k : Int) < n := by omega
      obtain ⟨b, off, rfl, hx0, hx1, hx2⟩ := HO.out k wr BW.out hlt
      have hcall := HP.out k wr BW.out hlt
      have HPk := Lib.hid (rfl : q k = q k)
      clear HP HO
      generalize a1 k = g0 at *
      generalize a2 k = g1 at *
      generalize n1 k = g2 at *
      generalize c1 k = g3 at *
      generalize n2 k = g4 at *
      generalize c2 k = g5 at *
      generalize x k = g6 at *
      cases hq' : q k with
      | true =>
        rw [hq'] at hcall
        have HQ := Lib.hid hq'
        clear hq'
        go_wp2_with (go_at_fn F; refine hcall.mono ?_; rintro e w' ⟨rfl, hb'⟩)
        go_ret
        exact ⟨(k : Int), rfl, .inr ⟨k, hlt, rfl, HQ.out, HF.out⟩, k + 1, hb'⟩
      | false =>
        rw [hq'] at hcall
        have HQ := Lib.hid hq'
        clear hq'
        go_wp2_with (go_at_fn F; refine hcall.mono ?_; rintro e w' ⟨rfl, hb'⟩)
        go_roundw
        case rel => exact ⟨k + 1, by omega, by first | rfl | go_num, Lib.hid hb', Lib.hid fun j hj => by rcases Nat.lt_succ_iff_lt_or_eq.1 hj with h | rfl; exact HF.out j h; exact HQ.out⟩
        case measure => simp [intOf]; omega
    · have hlt' : ¬ (k : Int) < n := by omega
      obtain rfl : k = n := by omega
      go_wp2
      go_ret
      exact ⟨-1, rfl, .inl ⟨rfl, HF.out⟩, k, BW.out⟩
theorem hasBl_any (F : Nat) (lb : Array Value) (eF : ∀ args w, (callFunc F args).run Try.prog w = .ok (.enter F args) w) (A : Option Addr) (n c : Nat) (a1 a2 : Nat → Option Addr) (n1 c1 n2 c2 : Nat → Nat) (x : Nat → Int) (w : World) (q : Nat → Bool) (I : Nat → World → Prop) (hm : n ≤ maxLen) (h0 : I 0 w)
    (hE : ∀ (k : Nat) (W : World), I k W → k < n → ∃ b off, A = some ⟨b, off, none⟩ ∧ W.cell? ⟨b, off + k * 3, none⟩ = some (.slice (a1 k) (n1 k) (c1 k)) ∧ W.cell? ⟨b, off + k * 3 + 1, none⟩ = some (.int .i64 (x k)) ∧ W.cell? ⟨b, off + k * 3 + 2, none⟩ = some (.slice (a2 k) (n2 k) (c2 k)))
    (hP : ∀ (k : Nat) (W : World), I k W → k < n → Calls Try.prog F (#[.agg #[.slice (a1 k) (n1 k) (c1 k), .int .i64 (x k), .slice (a2 k) (n2 k) (c2 k)]] ++ lb) W fun e w' => e = .returned (.bool (q k)) ∧ I (k + 1) w') (r : Bool) (hr : (List.range n).any q = r) :
    Calls Try.prog 117 #[.slice A n c, .func (.func F) #[] lb] w fun e w' => e = .returned (.bool r) ∧ ∃ k, I k w' := by
  have HC := Lib.hid (idxBl_any F lb eF A n c a1 a2 n1 c1 n2 c2 x w q I hm h0 hE hP)
  have HR := Lib.hid hr
  clear hP hm hr h0 hE
  go_enter Try.func117, Try.ntmps117
  go_wp2_with (go_at_call 145; refine HC.out.mono ?_; rintro e w' ⟨z, rfl, hz, k, hb⟩)
  go_ret
  exact ⟨ret_bool (by rw [← HR.out, ← hz.any]), k, hb⟩
theorem ent_evBl (args : Array Value) (w : World) : (callFunc 118 args).run Try.prog w = .ok (.enter 118 args) w := enters_of Try.func118 (by kernel_rfl) rfl args w
theorem notBl_any (F : Nat) (lb : Array Value) (eF : ∀ args w, (callFunc F args).run Try.prog w = .ok (.enter F args) w) (a1 a2 : Option Addr) (n1 c1 n2 c2 : Nat) (x : Int) (B : Nat) (W : World) (hB : W.cell? ⟨B, 0, none⟩ = some (.func (.func F) #[] lb)) (r : Bool) (Q : World → Prop)
    (hP : Calls Try.prog F (#[.agg #[.slice a1 n1 c1, .int .i64 x, .slice a2 n2 c2]] ++ lb) (W.alloc (.cells #[.slice a1 n1 c1, .int .i64 x, .slice a2 n2 c2] 34)) fun e w' => e = .returned (.bool r) ∧ Q w') :
    Calls Try.prog 118 #[.agg #[.slice a1 n1 c1, .int .i64 x, .slice a2 n2 c2], .pointer (some ⟨B, 0, none⟩)] W fun e w' => e = .returned (.bool (!r)) ∧ Q w' := by
  have HP := Lib.hid hP
  have hne : B < W.heap.size := World.block_lt_of_cell? W _ hB
  clear hP
  cases r
  all_goals
    go_enter Try.func118, Try.ntmps118
    go_wp2_with (go_at_fn F; refine HP.out.mono ?_; rintro e w' ⟨rfl, hb'⟩)
    go_ret
    exact ⟨rfl, hb'⟩
theorem everyBl_any (F : Nat) (lb : Array Value) (eF : ∀ args w, (callFunc F args).run Try.prog w = .ok (.enter F args) w) (A : Option Addr) (n c : Nat) (a1 a2 : Nat → Option Addr) (n1 c1 n2 c2 : Nat → Nat) (x : Nat → Int) (w : World) (q : Nat → Bool) (I : Nat → World → Prop) (hm : n ≤ maxLen) (h0 : I 0 w)
    (hE : ∀ (k : Nat) (W : World), I k W → k < n → ∃ b off, A = some ⟨b, off, none⟩ ∧ W.cell? ⟨b, off + k * 3, none⟩ = some (.slice (a1 k) (n1 k) (c1 k)) ∧ W.cell? ⟨b, off + k * 3 + 1, none⟩ = some (.int .i64 (x k)) ∧ W.cell? ⟨b, off + k * 3 + 2, none⟩ = some (.slice (a2 k) (n2 k) (c2 k)))
    (hK : ∀ k W W', I k W → Below W.heap.size W W' → I k W')
    (hP : ∀ (k : Nat) (W : World), I k W → k < n → Calls Try.prog F (#[.agg #[.slice (a1 k) (n1 k) (c1 k), .int .i64 (x k), .slice (a2 k) (n2 k) (c2 k)]] ++ lb) W fun e w' => e = .returned (.bool (q k)) ∧ I (k + 1) w' ∧ Sfe w.heap.size W w') (r : Bool) (hr : (List.range n).all q = r) :
    Calls Try.prog 78 #[.slice A n c, .func (.func F) #[] lb] w fun e w' => e = .returned (.bool r) ∧ ∃ k, I k w' := by
  subst hr
  rw [← all_not_any]
  obtain ⟨FT, hFT⟩ : ∃ FT, FT = Obj.cells #[.func (.func F) #[] lb] 118 := ⟨_, rfl⟩
  have hal : Below w.heap.size w (w.alloc FT) := (Below.refl _ _).alloc (Nat.le_refl _) _
  have HC := Lib.hid fun (r : Bool) (hr : (List.range n).any (fun k => !(q k)) = r) =>
    hasBl_any 118 #[.pointer (some ⟨w.heap.size, 0, none⟩)] ent_evBl A n c a1 a2 n1 c1 n2 c2 x (w.alloc FT) (fun k => !(q k)) (fun k W => I k W ∧ w.heap.size < W.heap.size ∧ W.heap[w.heap.size]? = some FT) hm
      ⟨hK 0 w _ h0 hal, by simp, heap_alloc_new w _⟩ (fun k W hI hk => hE k W hI.1 hk)
      (fun k W hI hk => by
        subst hFT
        have hal' : Below W.heap.size W (W.alloc (.cells #[.slice (a1 k) (n1 k) (c1 k), .int .i64 (x k), .slice (a2 k) (n2 k) (c2 k)] 34)) := (Below.refl _ _).alloc (Nat.le_refl _) _
        exact notBl_any F lb eF (a1 k) (a2 k) (n1 k) (c1 k) (n2 k) (c2 k) (x k) w.heap.size W (by have := cell_of_row W w.heap.size 0 _ _ _ hI.2.2; simpa using this) (q k) _ ((hP k _ (hK k W _ hI.1 hal') hk).mono fun e w' h => ⟨h.1, h.2.1, Nat.lt_of_lt_of_le hI.2.1 (Nat.le_trans hal'.size h.2.2.1), (h.2.2.2 _ (Nat.le_refl _) (Nat.lt_of_lt_of_le hI.2.1 hal'.size)).trans ((hal'.block _ hI.2.1).trans hI.2.2)⟩)) r hr
  clear hE hP h0 hK hal
  subst hFT
  cases h2 : (List.range n).any fun k => !(q k)
  all_goals
    have H2 := Lib.hid h2
    clear h2
    go_enter Try.func78, Try.ntmps78
    go_wp2_with (go_at_call 117; refine (HC.out _ H2.out).mono ?_; rintro e w' ⟨rfl, k, hb⟩)
    go_ret
    exact ⟨rfl, k, hb.1⟩
set_option maxHeartbeats 2000000 in
theorem idxLs_any (F : Nat) (lb : Array Value) (eF : ∀ args w, (callFunc F args).run Try.prog w = .ok (.enter F args) w) (A : Option Addr) (n c : Nat) (a1 : Nat → Option Addr) (n1 c1 : Nat → Nat) (w : World) (q : Nat → Bool) (I : Nat → World → Prop) (hm : n ≤ maxLen) (h0 : I 0 w)
    (hE : ∀ (k : Nat) (W : World), I k W → k < n → ∃ b off, A = some ⟨b, off, none⟩ ∧ W.cell? ⟨b, off + k, none⟩ = some (.slice (a1 k) (n1 k) (c1 k)))
    (hP : ∀ (k : Nat) (W : World), I k W → k < n → Calls Try.prog F (#[.slice (a1 k) (n1 k) (c1 k)] ++ lb) W fun e w' => e = .returned (.bool (q k)) ∧ I (k + 1) w') :
    Calls Try.prog 151 #[.slice A n c, .func (.func F) #[] lb] w fun e w' => ∃ z : Int, e = .returned (.int .i64 z) ∧ Fst q n z ∧ ∃ k, I k w' := by
  have HO := Lib.hid hE
  have HP := Lib.hid hP
  have H0 := Lib.hid h0
  unfold maxLen at hm
  clear h0 hE hP
  go_enter Try.func151, Try.ntmps151
  go_wp2
  go_loopw [5, 8] (fun _ i wr => ∃ k : Nat, k ≤ n ∧ i = .int .i64 k ∧ Hid (I k wr) ∧ Hid (∀ j, j < k → q j = false)) (fun _ i _ => n - (intOf i).toNat)
  case atStart => exact ⟨0, Nat.zero_le _, rfl, Lib.hid H0.out, Lib.hid fun j hj => absurd hj (Nat.not_lt_zero _)⟩
  case round =>
    obtain ⟨k, hk, rfl, BW, HF⟩ := hrel
    by_cases hlt : k < n
    · have hlt' : (k : Int) < n := by omega
      obtain ⟨b, off, rfl, hx0⟩ := HO.out k wr BW.out hlt
      have hcall := HP.out k wr BW.out hlt
      have HPk := Lib.hid (rfl : q k = q k)
      clear HP HO
      generalize a1 k = g0 at *
      generalize n1 k = g1 at *
      generalize c1 k = g2 at *
      cases hq' : q k with
      | true =>
        rw [hq'] at hcall
        have HQ := Lib.hid hq'
        clear hq'
        go_wp2_with (go_at_fn F; refine hcall.mono ?_; rintro e w' ⟨rfl, hb'⟩)
        go_ret
        exact ⟨(k : Int), rfl, .inr ⟨k, hlt, rfl, HQ.out, HF.out⟩, k + 1, hb'⟩
      | false =>
        rw [hq'] at hcall
        have HQ := Lib.hid hq'
        clear hq'
        go_wp2_with (go_at_fn F; refine hcall.mono ?_; rintro e w' ⟨rfl, hb'⟩)
        go_roundw
        case rel => exact ⟨k + 1, by omega, by first | rfl | go_num, Lib.hid hb', Lib.hid fun j hj => by rcases Nat.lt_succ_iff_lt_or_eq.1 hj with h | rfl; exact HF.out j h; exact HQ.out⟩
        case measure => simp [intOf]; omega
    · have hlt' : ¬ (k : Int) < n := by omega
      obtain rfl : k = n := by omega
      go_wp2
      go_ret
      exact ⟨-1, rfl, .inl ⟨rfl, HF.out⟩, k, BW.out⟩
theorem hasLs_any (F : Nat) (lb : Array Value) (eF : ∀ args w, (callFunc F args).run Try.prog w = .ok (.enter F args) w) (A : Option Addr) (n c : Nat) (a1 : Nat → Option Addr) (n1 c1 : Nat → Nat) (w : World) (q : Nat → Bool) (I : Nat → World → Prop) (hm : n ≤ maxLen) (h0 : I 0 w)
    (hE : ∀ (k : Nat) (W : World), I k W → k < n → ∃ b off, A = some ⟨b, off, none⟩ ∧ W.cell? ⟨b, off + k, none⟩ = some (.slice (a1 k) (n1 k) (c1 k)))
    (hP : ∀ (k : Nat) (W : World), I k W → k < n → Calls Try.prog F (#[.slice (a1 k) (n1 k) (c1 k)] ++ lb) W fun e w' => e = .returned (.bool (q k)) ∧ I (k + 1) w') (r : Bool) (hr : (List.range n).any q = r) :
    Calls Try.prog 121 #[.slice A n c, .func (.func F) #[] lb] w fun e w' => e = .returned (.bool r) ∧ ∃ k, I k w' := by
  have HC := Lib.hid (idxLs_any F lb eF A n c a1 n1 c1 w q I hm h0 hE hP)
  have HR := Lib.hid hr
  clear hP hm hr h0 hE
  go_enter Try.func121, Try.ntmps121
  go_wp2_with (go_at_call 151; refine HC.out.mono ?_; rintro e w' ⟨z, rfl, hz, k, hb⟩)
  go_ret
  exact ⟨ret_bool (by rw [← HR.out, ← hz.any]), k, hb⟩
theorem ent_evLs (args : Array Value) (w : World) : (callFunc 122 args).run Try.prog w = .ok (.enter 122 args) w := enters_of Try.func122 (by kernel_rfl) rfl args w
theorem notLs_any (F : Nat) (lb : Array Value) (eF : ∀ args w, (callFunc F args).run Try.prog w = .ok (.enter F args) w) (a1 : Option Addr) (n1 c1 : Nat) (B : Nat) (W : World) (hB : W.cell? ⟨B, 0, none⟩ = some (.func (.func F) #[] lb)) (r : Bool) (Q : World → Prop)
    (hP : Calls Try.prog F (#[.slice a1 n1 c1] ++ lb) W fun e w' => e = .returned (.bool r) ∧ Q w') :
    Calls Try.prog 122 #[.slice a1 n1 c1, .pointer (some ⟨B, 0, none⟩)] W fun e w' => e = .returned (.bool (!r)) ∧ Q w' := by
  have HP := Lib.hid hP
  have hne : B < W.heap.size := World.block_lt_of_cell? W _ hB
  clear hP
  cases r
  all_goals
    go_enter Try.func122, Try.ntmps122
    go_wp2_with (go_at_fn F; refine HP.out.mono ?_; rintro e w' ⟨rfl, hb'⟩)
    go_ret
    exact ⟨rfl, hb'⟩
theorem everyLs_any (F : Nat) (lb : Array Value) (eF : ∀ args w, (callFunc F args).run Try.prog w = .ok (.enter F args) w) (A : Option Addr) (n c : Nat) (a1 : Nat → Option Addr) (n1 c1 : Nat → Nat) (w : World) (q : Nat → Bool) (I : Nat → World → Prop) (hm : n ≤ maxLen) (h0 : I 0 w)
    (hE : ∀ (k : Nat) (W : World), I k W → k < n → ∃ b off, A = some ⟨b, off, none⟩ ∧ W.cell? ⟨b, off + k, none⟩ = some (.slice (a1 k) (n1 k) (c1 k)))
    (hK : ∀ k W W', I k W → Below W.heap.size W W' → I k W')
    (hP : ∀ (k : Nat) (W : World), I k W → k < n → Calls Try.prog F (#[.slice (a1 k) (n1 k) (c1 k)] ++ lb) W fun e w' => e = .returned (.bool (q k)) ∧ I (k + 1) w' ∧ Sfe w.heap.size W w') (r : Bool) (hr : (List.range n).all q = r) :
    Calls Try.prog 82 #[.slice A n c, .func (.func F) #[] lb] w fun e w' => e = .returned (.bool r) ∧ ∃ k, I k w' := by
  subst hr
  rw [← all_not_any]
  obtain ⟨FT, hFT⟩ : ∃ FT, FT = Obj.cells #[.func (.func F) #[] lb] 122 := ⟨_, rfl⟩
  have hal : Below w.heap.size w (w.alloc FT) := (Below.refl _ _).alloc (Nat.le_refl _) _
  have HC := Lib.hid fun (r : Bool) (hr : (List.range n).any (fun k => !(q k)) = r) =>
    hasLs_any 122 #[.pointer (some ⟨w.heap.size, 0, none⟩)] ent_evLs A n c a1 n1 c1 (w.alloc FT) (fun k => !(q k)) (fun k W => I k W ∧ w.heap.size < W.heap.size ∧ W.heap[w.heap.size]? = some FT) hm
      ⟨hK 0 w _ h0 hal, by simp, heap_alloc_new w _⟩ (fun k W hI hk => hE k W hI.1 hk)
      (fun k W hI hk => by
        subst hFT
        have hal' : Below W.heap.size W W := Below.refl _ _
        exact notLs_any F lb eF (a1 k) (n1 k) (c1 k) w.heap.size W (by have := cell_of_row W w.heap.size 0 _ _ _ hI.2.2; simpa using this) (q k) _ ((hP k _ (hK k W _ hI.1 hal') hk).mono fun e w' h => ⟨h.1, h.2.1, Nat.lt_of_lt_of_le hI.2.1 (Nat.le_trans hal'.size h.2.2.1), (h.2.2.2 _ (Nat.le_refl _) (Nat.lt_of_lt_of_le hI.2.1 hal'.size)).trans ((hal'.block _ hI.2.1).trans hI.2.2)⟩)) r hr
  clear hE hP h0 hK hal
  subst hFT
  cases h2 : (List.range n).any fun k => !(q k)
  all_goals
    have H2 := Lib.hid h2
    clear h2
    go_enter Try.func82, Try.ntmps82
    go_wp2_with (go_at_call 121; refine (HC.out _ H2.out).mono ?_; rintro e w' ⟨rfl, k, hb⟩)
    go_ret
    exact ⟨rfl, k, hb.1⟩
set_option maxHeartbeats 2000000 in
theorem idxNm_any (F : Nat) (lb : Array Value) (eF : ∀ args w, (callFunc F args).run Try.prog w = .ok (.enter F args) w) (A : Option Addr) (n c : Nat) (x : Nat → Int) (w : World) (q : Nat → Bool) (I : Nat → World → Prop) (hm : n ≤ maxLen) (h0 : I 0 w)
    (hE : ∀ (k : Nat) (W : World), I k W → k < n → ∃ b off, A = some ⟨b, off, none⟩ ∧ W.cell? ⟨b, off + k, none⟩ = some (.int .i64 (x k)))
    (hP : ∀ (k : Nat) (W : World), I k W → k < n → Calls Try.prog F (#[.int .i64 (x k)] ++ lb) W fun e w' => e = .returned (.bool (q k)) ∧ I (k + 1) w') :
    Calls Try.prog 152 #[.slice A n c, .func (.func F) #[] lb] w fun e w' => ∃ z : Int, e = .returned (.int .i64 z) ∧ Fst q n z ∧ ∃ k, I k w' := by
  have HO := Lib.hid hE
  have HP := Lib.hid hP
  have H0 := Lib.hid h0
  unfold maxLen at hm
  clear h0 hE hP
  go_enter Try.func152, Try.ntmps152
  go_wp2
  go_loopw [5, 8] (fun _ i wr => ∃ k : Nat, k ≤ n ∧ i = .int .i64 k ∧ Hid (I k wr) ∧ Hid (∀ j, j < k → q j = false)) (fun _ i _ => n - (intOf i).toNat)
  case atStart => exact ⟨0, Nat.zero_le _, rfl, Lib.hid H0.out, Lib.hid fun j hj => absurd hj (Nat.not_lt_zero _)⟩
  case round =>
    obtain ⟨k, hk, rfl, BW, HF⟩ := hrel
    by_cases hlt : k < n
    · have hlt' : (k : Int) < n := by omega
      obtain ⟨b, off, rfl, hx0⟩ := HO.out k wr BW.out hlt
      have hcall := HP.out k wr BW.out hlt
      have HPk := Lib.hid (rfl : q k = q k)
      clear HP HO
      generalize x k = g0 at *
      cases hq' : q k with
      | true =>
        rw [hq'] at hcall
        have HQ := Lib.hid hq'
        clear hq'
        go_wp2_with (go_at_fn F; refine hcall.mono ?_; rintro e w' ⟨rfl, hb'⟩)
        go_ret
        exact ⟨(k : Int), rfl, .inr ⟨k, hlt, rfl, HQ.out, HF.out⟩, k + 1, hb'⟩
      | false =>
        rw [hq'] at hcall
        have HQ := Lib.hid hq'
        clear hq'
        go_wp2_with (go_at_fn F; refine hcall.mono ?_; rintro e w' ⟨rfl, hb'⟩)
        go_roundw
        case rel => exact ⟨k + 1, by omega, by first | rfl | go_num, Lib.hid hb', Lib.hid fun j hj => by rcases Nat.lt_succ_iff_lt_or_eq.1 hj with h | rfl; exact HF.out j h; exact HQ.out⟩
        case measure => simp [intOf]; omega
    · have hlt' : ¬ (k : Int) < n := by omega
      obtain rfl : k = n := by omega
      go_wp2
      go_ret
      exact ⟨-1, rfl, .inl ⟨rfl, HF.out⟩, k, BW.out⟩
theorem hasNm_any (F : Nat) (lb : Array Value) (eF : ∀ args w, (callFunc F args).run Try.prog w = .ok (.enter F args) w) (A : Option Addr) (n c : Nat) (x : Nat → Int) (w : World) (q : Nat → Bool) (I : Nat → World → Prop) (hm : n ≤ maxLen) (h0 : I 0 w)
    (hE : ∀ (k : Nat) (W : World), I k W → k < n → ∃ b off, A = some ⟨b, off, none⟩ ∧ W.cell? ⟨b, off + k, none⟩ = some (.int .i64 (x k)))
    (hP : ∀ (k : Nat) (W : World), I k W → k < n → Calls Try.prog F (#[.int .i64 (x k)] ++ lb) W fun e w' => e = .returned (.bool (q k)) ∧ I (k + 1) w') (r : Bool) (hr : (List.range n).any q = r) :
    Calls Try.prog 123 #[.slice A n c, .func (.func F) #[] lb] w fun e w' => e = .returned (.bool r) ∧ ∃ k, I k w' := by
  have HC := Lib.hid (idxNm_any F lb eF A n c x w q I hm h0 hE hP)
  have HR := Lib.hid hr
  clear hP hm hr h0 hE
  go_enter Try.func123, Try.ntmps123
  go_wp2_with (go_at_call 152; refine HC.out.mono ?_; rintro e w' ⟨z, rfl, hz, k, hb⟩)
  go_ret
  exact ⟨ret_bool (by rw [← HR.out, ← hz.any]), k, hb⟩
theorem ent_evNm (args : Array Value) (w : World) : (callFunc 124 args).run Try.prog w = .ok (.enter 124 args) w := enters_of Try.func124 (by kernel_rfl) rfl args w
theorem notNm_any (F : Nat) (lb : Array Value) (eF : ∀ args w, (callFunc F args).run Try.prog w = .ok (.enter F args) w) (x : Int) (B : Nat) (W : World) (hB : W.cell? ⟨B, 0, none⟩ = some (.func (.func F) #[] lb)) (r : Bool) (Q : World → Prop)
    (hP : Calls Try.prog F (#[.int .i64 x] ++ lb) W fun e w' => e = .returned (.bool r) ∧ Q w') :
    Calls Try.prog 124 #[.int .i64 x, .pointer (some ⟨B, 0, none⟩)] W fun e w' => e = .returned (.bool (!r)) ∧ Q w' := by
  have HP := Lib.hid hP
  have hne : B < W.heap.size := World.block_lt_of_cell? W _ hB
  clear hP
  cases r
  all_goals
    go_enter Try.func124, Try.ntmps124
    go_wp2_with (go_at_fn F; refine HP.out.mono ?_; rintro e w' ⟨rfl, hb'⟩)
    go_ret
    exact ⟨rfl, hb'⟩
theorem everyNm_any (F : Nat) (lb : Array Value) (eF : ∀ args w, (callFunc F args).run Try.prog w = .ok (.enter F args) w) (A : Option Addr) (n c : Nat) (x : Nat → Int) (w : World) (q : Nat → Bool) (I : Nat → World → Prop) (hm : n ≤ maxLen) (h0 : I 0 w)
    (hE : ∀ (k : Nat) (W : World), I k W → k < n → ∃ b off, A = some ⟨b, off, none⟩ ∧ W.cell? ⟨b, off + k, none⟩ = some (.int .i64 (x k)))
    (hK : ∀ k W W', I k W → Below W.heap.size W W' → I k W')
    (hP : ∀ (k : Nat) (W : World), I k W → k < n → Calls Try.prog F (#[.int .i64 (x k)] ++ lb) W fun e w' => e = .returned (.bool (q k)) ∧ I (k + 1) w' ∧ Sfe w.heap.size W w') (r : Bool) (hr : (List.range n).all q = r) :
    Calls Try.prog 84 #[.slice A n c, .func (.func F) #[] lb] w fun e w' => e = .returned (.bool r) ∧ ∃ k, I k w' := by
  subst hr
  rw [← all_not_any]
  obtain ⟨FT, hFT⟩ : ∃ FT, FT = Obj.cells #[.func (.func F) #[] lb] 63 := ⟨_, rfl⟩
  have hal : Below w.heap.size w (w.alloc FT) := (Below.refl _ _).alloc (Nat.le_refl _) _
  have HC := Lib.hid fun (r : Bool) (hr : (List.range n).any (fun k => !(q k)) = r) =>
    hasNm_any 124 #[.pointer (some ⟨w.heap.size, 0, none⟩)] ent_evNm A n c x (w.alloc FT) (fun k => !(q k)) (fun k W => I k W ∧ w.heap.size < W.heap.size ∧ W.heap[w.heap.size]? = some FT) hm
      ⟨hK 0 w _ h0 hal, by simp, heap_alloc_new w _⟩ (fun k W hI hk => hE k W hI.1 hk)
      (fun k W hI hk => by
        subst hFT
        have hal' : Below W.heap.size W W := Below.refl _ _
        exact notNm_any F lb eF (x k) w.heap.size W (by have := cell_of_row W w.heap.size 0 _ _ _ hI.2.2; simpa using this) (q k) _ ((hP k _ (hK k W _ hI.1 hal') hk).mono fun e w' h => ⟨h.1, h.2.1, Nat.lt_of_lt_of_le hI.2.1 (Nat.le_trans hal'.size h.2.2.1), (h.2.2.2 _ (Nat.le_refl _) (Nat.lt_of_lt_of_le hI.2.1 hal'.size)).trans ((hal'.block _ hI.2.1).trans hI.2.2)⟩)) r hr
  clear hE hP h0 hK hal
  subst hFT
  cases h2 : (List.range n).any fun k => !(q k)
  all_goals
    have H2 := Lib.hid h2
    clear h2
    go_enter Try.func84, Try.ntmps84
    go_wp2_with (go_at_call 123; refine (HC.out _ H2.out).mono ?_; rintro e w' ⟨rfl, k, hb⟩)
    go_ret
    exact ⟨rfl, k, hb.1⟩
set_option maxHeartbeats 2000000 in
theorem idxHd_any (F : Nat) (lb : Array Value) (eF : ∀ args w, (callFunc F args).run Try.prog w = .ok (.enter F args) w) (A : Option Addr) (n c : Nat) (x y : Nat → Int) (w : World) (q : Nat → Bool) (I : Nat → World → Prop) (hm : n ≤ maxLen) (h0 : I 0 w)
    (hE : ∀ (k : Nat) (W : World), I k W → k < n → ∃ b off, A = some ⟨b, off, none⟩ ∧ W.cell? ⟨b, off + k * 2, none⟩ = some (.int .i64 (x k)) ∧ W.cell? ⟨b, off + k * 2 + 1, none⟩ = some (.int .i64 (y k)))
    (hP : ∀ (k : Nat) (W : World), I k W → k < n → Calls Try.prog F (#[.agg #[.int .i64 (x k), .int .i64 (y k)]] ++ lb) W fun e w' => e = .returned (.bool (q k)) ∧ I (k + 1) w') :
    Calls Try.prog 153 #[.slice A n c, .func (.func F) #[] lb] w fun e w' => ∃ z : Int, e = .returned (.int .i64 z) ∧ Fst q n z ∧ ∃ k, I k w' := by
  have HO := Lib.hid hE
  have HP := Lib.hid hP
  have H0 := Lib.hid h0
  unfold maxLen at hm
  clear h0 hE hP
  go_enter Try.func153, Try.ntmps153
  go_wp2
  go_loopw [5, 8] (fun _ i wr => ∃ k : Nat, k ≤ n ∧ i = .int .i64 k ∧ Hid (I k wr) ∧ Hid (∀ j, j < k → q j = false)) (fun _ i _ => n - (intOf i).toNat)
  case atStart => exact ⟨0, Nat.zero_le _, rfl, Lib.hid H0.out, Lib.hid fun j hj => absurd hj (Nat.not_lt_zero _)⟩
  case round =>
    obtain ⟨k, hk, rfl, BW, HF⟩ := hrel
    by_cases hlt : k < n
    · have hlt' : (k : Int) < n := by omega
      obtain ⟨b, off, rfl, hx0, hx1⟩ := HO.out k wr BW.out hlt
      have hcall := HP.out k wr BW.out hlt
      have HPk := Lib.hid (rfl : q k = q k)
      clear HP HO
      generalize x k = g0 at *
      generalize y k = g1 at *
      cases hq' : q k with
      | true =>
        rw [hq'] at hcall
        have HQ := Lib.hid hq'
        clear hq'
        go_wp2_with (go_at_fn F; refine hcall.mono ?_; rintro e w' ⟨rfl, hb'⟩)
        go_ret
        exact ⟨(k : Int), rfl, .inr ⟨k, hlt, rfl, HQ.out, HF.out⟩, k + 1, hb'⟩
      | false =>
        rw [hq'] at hcall
        have HQ := Lib.hid hq'
        clear hq'
        go_wp2_with (go_at_fn F; refine hcall.mono ?_; rintro e w' ⟨rfl, hb'⟩)
        go_roundw
        case rel => exact ⟨k + 1, by omega, by first | rfl | go_num, Lib.hid hb', Lib.hid fun j hj => by rcases Nat.lt_succ_iff_lt_or_eq.1 hj with h | rfl; exact HF.out j h; exact HQ.out⟩
        case measure => simp [intOf]; omega
    · have hlt' : ¬ (k : Int) < n := by omega
      obtain rfl : k = n := by omega
      go_wp2
      go_ret
      exact ⟨-1, rfl, .inl ⟨rfl, HF.out⟩, k, BW.out⟩
theorem hasHd_any (F : Nat) (lb : Array Value) (eF : ∀ args w, (callFunc F args).run Try.prog w = .ok (.enter F args) w) (A : Option Addr) (n c : Nat) (x y : Nat → Int) (w : World) (q : Nat → Bool) (I : Nat → World → Prop) (hm : n ≤ maxLen) (h0 : I 0 w)
    (hE : ∀ (k : Nat) (W : World), I k W → k < n → ∃ b off, A = some ⟨b, off, none⟩ ∧ W.cell? ⟨b, off + k * 2, none⟩ = some (.int .i64 (x k)) ∧ W.cell? ⟨b, off + k * 2 + 1, none⟩ = some (.int .i64 (y k)))
    (hP : ∀ (k : Nat) (W : World), I k W → k < n → Calls Try.prog F (#[.agg #[.int .i64 (x k), .int .i64 (y k)]] ++ lb) W fun e w' => e = .returned (.bool (q k)) ∧ I (k + 1) w') (r : Bool) (hr : (List.range n).any q = r) :
    Calls Try.prog 125 #[.slice A n c, .func (.func F) #[] lb] w fun e w' => e = .returned (.bool r) ∧ ∃ k, I k w' := by
  have HC := Lib.hid (idxHd_any F lb eF A n c x y w q I hm h0 hE hP)
  have HR := Lib.hid hr
  clear hP hm hr h0 hE
  go_enter Try.func125, Try.ntmps125
  go_wp2_with (go_at_call 153; refine HC.out.mono ?_; rintro e w' ⟨z, rfl, hz, k, hb⟩)
  go_ret
  exact ⟨ret_bool (by rw [← HR.out, ← hz.any]), k, hb⟩
theorem ent_evHd (args : Array Value) (w : World) : (callFunc 126 args).run Try.prog w = .ok (.enter 126 args) w := enters_of Try.func126 (by kernel_rfl) rfl args w
theorem notHd_any (F : Nat) (lb : Array Value) (eF : ∀ args w, (callFunc F args).run Try.prog w = .ok (.enter F args) w) (x y : Int) (B : Nat) (W : World) (hB : W.cell? ⟨B, 0, none⟩ = some (.func (.func F) #[] lb)) (r : Bool) (Q : World → Prop)
    (hP : Calls Try.prog F (#[.agg #[.int .i64 x, .int .i64 y]] ++ lb) (W.alloc (.cells #[.int .i64 x, .int .i64 y] 52)) fun e w' => e = .returned (.bool r) ∧ Q w') :
    Calls Try.prog 126 #[.agg #[.int .i64 x, .int .i64 y], .pointer (some ⟨B, 0, none⟩)] W fun e w' => e = .returned (.bool (!r)) ∧ Q w' := by
  have HP := Lib.hid hP
  have hne : B < W.heap.size := World.block_lt_of_cell? W _ hB
  clear hP
  cases r
  all_goals
    go_enter Try.func126, Try.ntmps126
    go_wp2_with (go_at_fn F; refine HP.out.mono ?_; rintro e w' ⟨rfl, hb'⟩)
    go_ret
    exact ⟨rfl, hb'⟩
theorem everyHd_any (F : Nat) (lb : Array Value) (eF : ∀ args w, (callFunc F args).run Try.prog w = .ok (.enter F args) w) (A : Option Addr) (n c : Nat) (x y : Nat → Int) (w : World) (q : Nat → Bool) (I : Nat → World → Prop) (hm : n ≤ maxLen) (h0 : I 0 w)
    (hE : ∀ (k : Nat) (W : World), I k W → k < n → ∃ b off, A = some ⟨b, off, none⟩ ∧ W.cell? ⟨b, off + k * 2, none⟩ = some (.int .i64 (x k)) ∧ W.cell? ⟨b, off + k * 2 + 1, none⟩ = some (.int .i64 (y k)))
    (hK : ∀ k W W', I k W → Below W.heap.size W W' → I k W')
    (hP : ∀ (k : Nat) (W : World), I k W → k < n → Calls Try.prog F (#[.agg #[.int .i64 (x k), .int .i64 (y k)]] ++ lb) W fun e w' => e = .returned (.bool (q k)) ∧ I (k + 1) w' ∧ Sfe w.heap.size W w') (r : Bool) (hr : (List.range n).all q = r) :
    Calls Try.prog 86 #[.slice A n c, .func (.func F) #[] lb] w fun e w' => e = .returned (.bool r) ∧ ∃ k, I k w' := by
  subst hr
  rw [← all_not_any]
  obtain ⟨FT, hFT⟩ : ∃ FT, FT = Obj.cells #[.func (.func F) #[] lb] 124 := ⟨_, rfl⟩
  have hal : Below w.heap.size w (w.alloc FT) := (Below.refl _ _).alloc (Nat.le_refl _) _
  have HC := Lib.hid fun (r : Bool) (hr : (List.range n).any (fun k => !(q k)) = r) =>
    hasHd_any 126 #[.pointer (some ⟨w.heap.size, 0, none⟩)] ent_evHd A n c x y (w.alloc FT) (fun k => !(q k)) (fun k W => I k W ∧ w.heap.size < W.heap.size ∧ W.heap[w.heap.size]? = some FT) hm
      ⟨hK 0 w _ h0 hal, by simp, heap_alloc_new w _⟩ (fun k W hI hk => hE k W hI.1 hk)
      (fun k W hI hk => by
        subst hFT
        have hal' : Below W.heap.size W (W.alloc (.cells #[.int .i64 (x k), .int .i64 (y k)] 52)) := (Below.refl _ _).alloc (Nat.le_refl _) _
        exact notHd_any F lb eF (x k) (y k) w.heap.size W (by have := cell_of_row W w.heap.size 0 _ _ _ hI.2.2; simpa using this) (q k) _ ((hP k _ (hK k W _ hI.1 hal') hk).mono fun e w' h => ⟨h.1, h.2.1, Nat.lt_of_lt_of_le hI.2.1 (Nat.le_trans hal'.size h.2.2.1), (h.2.2.2 _ (Nat.le_refl _) (Nat.lt_of_lt_of_le hI.2.1 hal'.size)).trans ((hal'.block _ hI.2.1).trans hI.2.2)⟩)) r hr
  clear hE hP h0 hK hal
  subst hFT
  cases h2 : (List.range n).any fun k => !(q k)
  all_goals
    have H2 := Lib.hid h2
    clear h2
    go_enter Try.func86, Try.ntmps86
    go_wp2_with (go_at_call 125; refine (HC.out _ H2.out).mono ?_; rintro e w' ⟨rfl, k, hb⟩)
    go_ret
    exact ⟨rfl, k, hb.1⟩
end Go.Proofs.Ytojnhdkclabkgaa
