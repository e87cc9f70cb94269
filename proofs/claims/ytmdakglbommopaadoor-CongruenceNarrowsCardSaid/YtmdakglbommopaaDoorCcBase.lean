/- The code of layer 8: All, None, Of, single, size, class, Valid, taken. Condition: the library's table of trailing zeros lies in the world. -/
import Derived.Test.YtmdakglbommopaaDoorCgRefD
import Derived.Test.YtmdakglbommopaaDoorCcMath
import Derived.Test.YtmdakglbommopaaDoorWdCode
import Derived.Test.YtmdakglbommopaaDoorStFresh
import Derived.Shelf.Spec.TrailingZeros
import Derived.Deep.RegionWith
namespace Go.Proofs.YtmdakglbommopaaDoor
open Go.RowKit
set_option linter.unusedVariables false
set_option linter.unusedSimpArgs false
attribute [local go_sem] y_undef
/-- The library's table of trailing zeros lies in this world. -/
def Tb (w : World) : Prop := TabAt 1 Lib.deBruijn64tab w ∧ 1 < w.heap.size
theorem Tb.below {w u : World} (h : Tb w) (hb : Below w.heap.size w u) : Tb u :=
  ⟨fun j hj => (hb.cell (p := ⟨1, j, none⟩) h.2).trans (h.1 j hj), Nat.lt_of_lt_of_le h.2 hb.size⟩
set_option maxHeartbeats 1000000 in
theorem tz64_c (x : Nat) (hx : x < 18446744073709551616) (w : World) (htb : Tb w) : Calls Tryd.prog 47 #[.int .u64 x] w fun e w' => e = .returned (.int .i64 ((Lib.ctz 64 x : Nat) : Int)) ∧ w = w' := by
  by_cases h0 : x = 0
  · subst h0
    have h64 : Lib.ctz 64 0 = 64 := rfl
    rw [h64]
    go_enter Tryd.func47, Tryd.ntmps47
    go_wp2
    go_ret
    exact ⟨rfl, rfl⟩
  · have hx0 : ((x : Int) == 0) = false := by simp; omega
    obtain ⟨hlow, hk⟩ := Lib.lowest_bit 64 x h0 hx
    obtain ⟨hi, htab⟩ := Lib.deBruijn64_at _ hk
    have key := tz64_key x _ hx h0 hlow
    obtain ⟨idx, hidx⟩ : ∃ i, 2 ^ Lib.ctz 64 x * 285870213051353865 % 18446744073709551616 / 288230376151711744 = i := ⟨_, rfl⟩
    rw [hidx] at hi htab key
    obtain ⟨k, hk'⟩ : ∃ k, Lib.ctz 64 x = k := ⟨_, rfl⟩
    rw [hk'] at htab hk ⊢
    have hcell : w.cell? ⟨1, idx, none⟩ = some (.int .u8 k) := by have := htb.1 idx hi; rwa [htab] at this
    clear hidx hk' hlow htab htb hx h0
    go_enter Tryd.func47, Tryd.ntmps47
    go_wp2_with (simp only [key])
    go_ret
    exact ⟨rfl, rfl⟩
theorem wrap_u64' (n : Int) : IntKind.u64.wrap n = n % 18446744073709551616 := by simp [IntKind.wrap, IntKind.signed, IntKind.bits]
theorem tz_c (n v : Int) (hv : IntKind.u64.wrap n = v) (k : Nat) (hk : Rs.tz n = k) (w : World) (htb : Tb w) : Calls Tryd.prog 40 #[.int .u64 v] w fun e w' => e = .returned (.int .i64 (k : Int)) ∧ Below w.heap.size w w' := by
  have h0 := Int.emod_nonneg n (show (18446744073709551616 : Int) ≠ 0 by omega)
  have h1 := Int.emod_lt_of_pos n (show (0 : Int) < 18446744073709551616 by omega)
  rw [wrap_u64'] at hv
  unfold Rs.tz at hk
  obtain ⟨x, hx⟩ := Int.eq_ofNat_of_zero_le h0
  rw [hx] at hv hk h1
  subst hv
  have e : ((x : Nat) : Int).toNat = x := by omega
  rw [e] at hk
  subst hk
  have HT := Lib.hid (tz64_c x (by omega))
  clear hx h0 h1 e
  go_enter Tryd.func40, Tryd.ntmps40
  go_wp2_with (go_at_call 47; refine (HT.out _ htb).mono ?_; rintro e w' ⟨rfl, rfl⟩)
  go_ret
  exact ⟨rfl, Below.refl _ _⟩
theorem cAll_any (w : World) : Calls Tryd.prog 9 #[] w fun e w' => e = .returned (.agg #[.int .i64 1, .int .i64 0]) ∧ Below w.heap.size w w' := by
  go_enter Tryd.func9, Tryd.ntmps9
  go_wp2
  refine bodyPost_ret (v := .agg #[.int .i64 1, .int .i64 0]) (by simp [results, Tryd.results9, go_sem]) rfl ⟨rfl, ((Ahead.refl w).alloc _).1⟩
theorem cNone_any (w : World) : Calls Tryd.prog 11 #[] w fun e w' => e = .returned (.agg #[.int .i64 (-1), .int .i64 0]) ∧ Below w.heap.size w w' := by
  go_enter Tryd.func11, Tryd.ntmps11
  go_wp2
  refine bodyPost_ret (v := .agg #[.int .i64 (-1), .int .i64 0]) (by simp [results, Tryd.results11, go_sem]) rfl ⟨rfl, ((Ahead.refl w).alloc _).1⟩
theorem cOf_any (n : Int) (r : Rs) (h : Rs.sing n = r) (w : World) : Calls Tryd.prog 23 #[.int .i64 n] w fun e w' => e = .returned (.agg #[.int .i64 r.m, .int .i64 r.r]) ∧ Below w.heap.size w w' := by
  subst h
  go_enter Tryd.func23, Tryd.ntmps23
  go_wp2_with (go_at_call 37; refine (wWrap_c _ _).mono ?_; rintro e w' ⟨rfl, rfl⟩)
  refine bodyPost_ret (v := .agg #[.int .i64 0, .int .i64 (wrap32 n)]) (by simp [results, Tryd.results23, go_sem]) rfl ⟨rfl, ((Ahead.refl w).alloc _).1⟩
theorem single_any (m r : Int) (b : Bool) (h : (m == 0) = b) (w : World) : Calls Tryd.prog 33 #[.agg #[.int .i64 m, .int .i64 r]] w fun e w' => e = .returned (.bool b) ∧ Below w.heap.size w w' := by
  have hA := (Ahead.refl w).alloc (.cells #[.int .i64 m, .int .i64 r] 23)
  go_enter Tryd.func33, Tryd.ntmps33
  go_wp2
  go_ret
  exact ⟨rfl, hA.1⟩
theorem size_any (m r : Int) (k : Nat) (hk : Rs.sz m = k) (w : World) (htb : Tb w) : Calls Tryd.prog 39 #[.agg #[.int .i64 m, .int .i64 r]] w fun e w' => e = .returned (.int .i64 (k : Int)) ∧ Below w.heap.size w w' := by
  have hA := (Ahead.refl w).alloc (.cells #[.int .i64 m, .int .i64 r] 23)
  have HTb := Lib.hid htb
  clear htb
  by_cases h0 : m = 0
  · have hb : (m == 0) = true := by simp [h0]
    have HK := Lib.hid (show 32 = k by rw [← hk]; unfold Rs.sz; rw [if_pos h0])
    have HB := Lib.hid hb
    clear h0 hk hb
    go_enter Tryd.func39, Tryd.ntmps39
    go_wp2_with fail
    refine (single_any m r true HB.out _).mono ?_
    rintro e w1 ⟨rfl, hb⟩
    have hA1 := hA.below hb; obtain ⟨hc1, hf1⟩ := bcell hb; (try simp only [size_alloc] at hc1 hf1); clear hb; have hz10 : w.heap.size < w1.heap.size := (by have := hA1.2; omega)
    go_wp2
    go_ret
    exact ⟨by rw [← HK.out]; rfl, hA1.1⟩
  · have hb : (m == 0) = false := by simp [h0]
    have HK := Lib.hid (show Rs.tz m = k by rw [← hk]; unfold Rs.sz; rw [if_neg h0])
    have HB := Lib.hid hb
    clear h0 hk hb
    obtain ⟨v, hv⟩ : ∃ v, IntKind.u64.wrap m = v := ⟨_, rfl⟩
    have HV := Lib.hid hv
    go_enter Tryd.func39, Tryd.ntmps39
    go_wp2_with fail
    refine (single_any m r false HB.out _).mono ?_
    rintro e w1 ⟨rfl, hb⟩
    have hA1 := hA.below hb; obtain ⟨hc1, hf1⟩ := bcell hb; (try simp only [size_alloc] at hc1 hf1); clear hb; have hz10 : w.heap.size < w1.heap.size := (by have := hA1.2; omega)
    have hTu := HTb.out.below hA1.1
    go_wp2_with (go_at_call 40; refine (tz_c m _ (by first | exact HV.out | rfl) k HK.out _ hTu).mono ?_; rintro e w2 ⟨rfl, hb2⟩)
    go_ret
    exact ⟨rfl, (hA1.below hb2).1⟩
theorem mask_low (n : Int) {j : Nat} (hj : j ≤ 30) : bits .and .i64 n (2 ^ j - 1) = n % 2 ^ j := by
  have hp := Rs.p2_pos j
  have hp30 := Rs.p2_30 hj
  have hn := Int.emod_nonneg n (show (2 : Int) ^ j ≠ 0 by omega)
  have hl := Int.emod_lt_of_pos n (show (0 : Int) < 2 ^ j by omega)
  have hN : ((2 ^ j : Nat) : Int) = 2 ^ j := by simp
  have hb : (BitVec.ofInt 64 n &&& BitVec.ofInt 64 (2 ^ j - 1)).toNat = (n % 2 ^ j).toNat := by
    rw [BitVec.toNat_and]
    have e : (BitVec.ofInt 64 (2 ^ j - 1)).toNat = 2 ^ j - 1 := by rw [BitVec.toNat_ofInt]; omega
    rw [e, Nat.and_two_pow_sub_one_eq_mod, BitVec.toNat_ofInt]
    have h3 : n % 2 ^ 64 % 2 ^ j = n % 2 ^ j := Int.emod_emod_of_dvd n (Rs.p2_dvd (by omega))
    have h64 := Int.emod_nonneg n (show (2 : Int) ^ 64 ≠ 0 by decide)
    apply Int.ofNat_inj.1
    rw [Int.natCast_emod, hN, Int.toNat_of_nonneg hn]
    have e' : ((2 ^ 64 : Nat) : Int) = 2 ^ 64 := by simp
    rw [e', Int.toNat_of_nonneg h64]
    exact h3
  rw [bits_and64, hb, IntWalk.i64_in] <;> omega
set_option maxHeartbeats 1000000 in
theorem class_any (n : Int) (k : Nat) (r : Rs) (h : Rs.low n k = r) (w : World) : Calls Tryd.prog 38 #[.int .i64 n, .int .i64 (k : Int)] w fun e w' => e = .returned (.agg #[.int .i64 r.m, .int .i64 r.r]) ∧ Below w.heap.size w w' := by
  have hm := fun (ts : Array TypeId) (t : TypeId) (W : World) => run_min30 k ts t W
  obtain ⟨j, hj⟩ : ∃ j, min k 30 = j := ⟨_, rfl⟩
  have hj30 : j ≤ 30 := by omega
  have hu : IntKind.u64.wrap (j : Int) = j := by rw [IntWalk.u64_in]; omega
  have h2 := shl_one (k := j) (by omega)
  have hp := Rs.p2_pos j
  have hp30 := Rs.p2_30 hj30
  have w1 : IntKind.i64.wrap (2 ^ j - 1) = 2 ^ j - 1 := IntWalk.i64_in _ (by omega)
  have hmk := mask_low n hj30
  have HR := Lib.hid (show r = ⟨2 ^ j, n % 2 ^ j⟩ by rw [← h]; unfold Rs.low; rw [hj])
  rw [hj] at hm
  clear h hj hp hp30
  go_enter Tryd.func38, Tryd.ntmps38
  go_wp2
  rw [HR.out]
  refine bodyPost_ret (v := .agg #[.int .i64 (2 ^ j), .int .i64 (n % 2 ^ j)]) (by simp [results, Tryd.results38, go_sem]) rfl ⟨rfl, ((Ahead.refl w).alloc _).1⟩
/-- One box; two; two and one for the result. -/
def Rzc (g : Nat) (u : World) : Prop := (∃ x y, u.cell? ⟨g, 0, none⟩ = some x ∧ u.cell? ⟨g, 1, none⟩ = some y) ∧ ∀ o, u.frozen? ⟨g, o, none⟩ = false
theorem Rzc.below {g : Nat} {a b : World} (h : Rzc g a) (hb : Below a.heap.size a b) (hg : g < a.heap.size) : Rzc g b := by
  obtain ⟨⟨x, y, h0, h1⟩, hf⟩ := h
  exact ⟨⟨x, y, (hb.cell (p := ⟨g, 0, none⟩) hg).trans h0, (hb.cell (p := ⟨g, 1, none⟩) hg).trans h1⟩, fun o => (hb.frozen (p := ⟨g, o, none⟩) hg).trans (hf o)⟩
theorem Rzc.set {g : Nat} {a : World} {x y : Value} (h : Rzc g a) : Rzc g ((a.setCell ⟨g, 0, none⟩ x).setCell ⟨g, 1, none⟩ y) := by
  obtain ⟨⟨x', y', h0, h1⟩, hf⟩ := h
  exact ⟨⟨x, y, by go_simp, by go_simp⟩, fun o => by simpa using hf o⟩
def C1 (w : World) (a : Rs) (u : World) : Prop := Ahead 1 w u ∧ (u.cell? ⟨w.heap.size, 0, none⟩ = some (.int .i64 a.m) ∧ u.cell? ⟨w.heap.size, 1, none⟩ = some (.int .i64 a.r))
def C2 (w : World) (a b : Rs) (u : World) : Prop := Ahead 2 w u ∧ (u.cell? ⟨w.heap.size, 0, none⟩ = some (.int .i64 a.m) ∧ u.cell? ⟨w.heap.size, 1, none⟩ = some (.int .i64 a.r)) ∧ (u.cell? ⟨w.heap.size + 1, 0, none⟩ = some (.int .i64 b.m) ∧ u.cell? ⟨w.heap.size + 1, 1, none⟩ = some (.int .i64 b.r))
def C3 (w : World) (a b : Rs) (u : World) : Prop := Ahead 3 w u ∧ (u.cell? ⟨w.heap.size, 0, none⟩ = some (.int .i64 a.m) ∧ u.cell? ⟨w.heap.size, 1, none⟩ = some (.int .i64 a.r)) ∧ (u.cell? ⟨w.heap.size + 1, 0, none⟩ = some (.int .i64 b.m) ∧ u.cell? ⟨w.heap.size + 1, 1, none⟩ = some (.int .i64 b.r)) ∧ Rzc (w.heap.size + 1 + 1) u
section
variable {w u v : World} {a b : Rs} {x y : Value}
theorem C1.below (h : C1 w a u) (hb : Below u.heap.size u v) : C1 w a v := by
  obtain ⟨hA, a0, a1⟩ := h
  exact ⟨hA.below hb, hA.cell0 hb a0 (by omega), hA.cell0 hb a1 (by omega)⟩
theorem C1.drew (h : C1 w a u) : C1 w a u.drew := h.below (below_drewN _ u 1)
theorem C2.below (h : C2 w a b u) (hb : Below u.heap.size u v) : C2 w a b v := by
  obtain ⟨hA, ⟨a0, a1⟩, ⟨b0, b1⟩⟩ := h
  exact ⟨hA.below hb, ⟨hA.cell0 hb a0 (by omega), hA.cell0 hb a1 (by omega)⟩, ⟨hA.cell hb b0 (by omega), hA.cell hb b1 (by omega)⟩⟩
theorem C2.drew (h : C2 w a b u) : C2 w a b u.drew := h.below (below_drewN _ u 1)
theorem C3.below (h : C3 w a b u) (hb : Below u.heap.size u v) : C3 w a b v := by
  obtain ⟨hA, ⟨a0, a1⟩, ⟨b0, b1⟩, hr⟩ := h
  exact ⟨hA.below hb, ⟨hA.cell0 hb a0 (by omega), hA.cell0 hb a1 (by omega)⟩, ⟨hA.cell hb b0 (by omega), hA.cell hb b1 (by omega)⟩, hr.below hb (hA.lt2 (by omega))⟩
theorem C3.drew (h : C3 w a b u) : C3 w a b u.drew := h.below (below_drewN _ u 1)
theorem C3.set (h : C3 w a b u) : C3 w a b ((u.setCell ⟨w.heap.size + 1 + 1, 0, none⟩ x).setCell ⟨w.heap.size + 1 + 1, 1, none⟩ y) := by
  obtain ⟨hA, ⟨a0, a1⟩, ⟨b0, b1⟩, hr⟩ := h
  exact ⟨(hA.set (by omega) _).set (by omega) _, ⟨(far2 (by omega)).trans a0, (far2 (by omega)).trans a1⟩, ⟨(far2 (by omega)).trans b0, (far2 (by omega)).trans b1⟩, hr.set⟩
end
theorem c1_new (w : World) (a : Rs) (t : TypeId) : C1 w a (w.alloc (.cells #[.int .i64 a.m, .int .i64 a.r] t)) := ⟨(Ahead.refl w).alloc _, by simp, by simp⟩
theorem c2_new (w : World) (a b : Rs) (t : TypeId) : C2 w a b ((w.alloc (.cells #[.int .i64 a.m, .int .i64 a.r] t)).alloc (.cells #[.int .i64 b.m, .int .i64 b.r] t)) :=
  ⟨((Ahead.refl w).alloc _).alloc _, ⟨by go_simp, by go_simp⟩, ⟨by go_simp, by go_simp⟩⟩
theorem c3_new (w : World) (a b : Rs) (t : TypeId) : C3 w a b (((w.alloc (.cells #[.int .i64 a.m, .int .i64 a.r] t)).alloc (.cells #[.int .i64 b.m, .int .i64 b.r] t)).alloc (.cells #[.int .i64 0, .int .i64 0] t)) :=
  ⟨(((Ahead.refl w).alloc _).alloc _).alloc _, ⟨by go_simp, by go_simp⟩, ⟨by go_simp, by go_simp⟩, ⟨.int .i64 0, .int .i64 0, by go_simp, by go_simp⟩, fun o => by go_simp⟩
theorem c2_of {w u : World} {a b : Rs} (h : RBox2 w a b u) : C2 w a b u := h
theorem c3_of {w u : World} {a b : Rs} (h : RBox3 w a b u) : C3 w a b u := ⟨h.1, h.2.1, h.2.2.1, ⟨_, _, h.2.2.2.1.1, h.2.2.2.1.2⟩, h.2.2.2.2⟩
set_option maxHeartbeats 4000000 in
theorem cValid_any (m r : Int) (b : Bool) (h : Rs.ok ⟨m, r⟩ = b) (w : World) (htb : Tb w) : Calls Tryd.prog 19 #[.agg #[.int .i64 m, .int .i64 r]] w fun e w' => e = .returned (.bool b) ∧ Below w.heap.size w w' := by
  have hB := c1_new w ⟨m, r⟩ 23
  have HTb := Lib.hid htb
  clear htb
  have hg := rs_guard
  by_cases h0 : m = -1 ∧ r = 0
  · have he := rs_eql m r (-1) 0 true (by simp [h0.1, h0.2])
    have HF := Lib.hid (show true = b by rw [← h, h0.1, h0.2]; decide)
    clear h0 h
    go_enter Tryd.func19, Tryd.ntmps19
    go_wp2_with fail
    refine wp_region_held_drew (S := (fun w' => C1 w ⟨m, r⟩ w')) (by kernel_rfl) (hB.drew) (fun hHeld => ?_)
    generalize (w.alloc (.cells #[.int .i64 m, .int .i64 r] 23)).drew = u0 at *
    clear hB
    refine' wpAnyH_take (i := 0) (v := _) ?_ ?_ ?_ ?_ ?_ ?_ ?_ ?_
    rotate_left 2
    focus (simp only [List.getElem?_toArray, List.getElem?_cons_succ, List.getElem?_cons_zero]; rfl)
    focus kernel_rfl
    focus kernel_rfl
    focus kernel_rfl
    focus exact (fun _ _ _ h => h)
    refine Or.inl ⟨?_, ?_⟩
    focus (go_simp; done)
    focus (intro w hSw; obtain ⟨_, a0, a1⟩ := hSw; (first | (go_simp; done) | (go_simp; with_reducible rfl)))
    focus assumption
    (try simp only [Act.put, List.setIfInBounds_toArray, List.set_cons_zero, List.set_cons_succ])
    refine wpAnyH_ready (rs := [1]) (by kernel_rfl) (by simp) ?_
    refine' AllReadyH.cons ?_ (fun K hK => ?_) AllReadyH.nil
    rotate_left
    focus (simp only [List.getElem?_toArray, List.getElem?_cons_succ, List.getElem?_cons_zero]; rfl)
    go_simp
    (go_at_call 11; (with_reducible refine (cNone_any _).mono ?_); rintro e u1 ⟨rfl, hb⟩)
    have hS := C1.below hHeld hb
    clear hb
    refine hK.out _ _ hS (fun hHeld => ?_)
    clear hK K hS
    (try simp only [Act.put, List.setIfInBounds_toArray, List.set_cons_zero, List.set_cons_succ])
    refine' wpAnyH_take (i := 2) (v := _) ?_ ?_ ?_ ?_ ?_ ?_ ?_ ?_
    rotate_left 2
    focus (simp only [List.getElem?_toArray, List.getElem?_cons_succ, List.getElem?_cons_zero]; rfl)
    focus kernel_rfl
    focus kernel_rfl
    focus kernel_rfl
    focus exact (fun _ _ _ h => h)
    refine Or.inl ⟨?_, ?_⟩
    focus (go_simp; done)
    focus (intro w hSw; obtain ⟨_, a0, a1⟩ := hSw; (first | (go_simp; done) | (go_simp; with_reducible rfl)))
    focus assumption
    (try simp only [Act.put, List.setIfInBounds_toArray, List.set_cons_zero, List.set_cons_succ])
    refine' wpAnyH_take (i := 3) (v := _) ?_ ?_ ?_ ?_ ?_ ?_ ?_ ?_
    rotate_left 2
    focus (simp only [List.getElem?_toArray, List.getElem?_cons_succ, List.getElem?_cons_zero]; rfl)
    focus kernel_rfl
    focus kernel_rfl
    focus kernel_rfl
    focus exact (fun _ _ _ h => h)
    refine Or.inl ⟨?_, ?_⟩
    focus (go_simp; done)
    focus (intro w hSw; obtain ⟨_, a0, a1⟩ := hSw; (first | (go_simp; done) | (go_simp; with_reducible rfl)))
    focus assumption
    (try simp only [Act.put, List.setIfInBounds_toArray, List.set_cons_zero, List.set_cons_succ])
    refine' wpAnyH_take (i := 4) (v := undef) ?_ ?_ ?_ ?_ ?_ ?_ ?_ ?_
    rotate_left 1
    focus (simp only [List.getElem?_toArray, List.getElem?_cons_succ, List.getElem?_cons_zero]; rfl)
    focus kernel_rfl
    focus kernel_rfl
    focus kernel_rfl
    focus exact (fun _ _ _ h => h)
    refine Or.inr ⟨?_, rfl⟩
    focus (go_simp; done)
    focus assumption
    (try simp only [Act.put, List.setIfInBounds_toArray, List.set_cons_zero, List.set_cons_succ])
    refine' wpAnyH_take (i := 5) (v := undef) ?_ ?_ ?_ ?_ ?_ ?_ ?_ ?_
    rotate_left 1
    focus (simp only [List.getElem?_toArray, List.getElem?_cons_succ, List.getElem?_cons_zero]; rfl)
    focus kernel_rfl
    focus kernel_rfl
    focus kernel_rfl
    focus exact (fun _ _ _ h => h)
    refine Or.inr ⟨?_, rfl⟩
    focus (go_simp; done)
    focus assumption
    (try simp only [Act.put, List.setIfInBounds_toArray, List.set_cons_zero, List.set_cons_succ])
    refine' wpAnyH_take (i := 6) (v := undef) ?_ ?_ ?_ ?_ ?_ ?_ ?_ ?_
    rotate_left 1
    focus (simp only [List.getElem?_toArray, List.getElem?_cons_succ, List.getElem?_cons_zero]; rfl)
    focus kernel_rfl
    focus kernel_rfl
    focus kernel_rfl
    focus exact (fun _ _ _ h => h)
    refine Or.inr ⟨?_, rfl⟩
    focus (go_simp; done)
    focus assumption
    (try simp only [Act.put, List.setIfInBounds_toArray, List.set_cons_zero, List.set_cons_succ])
    refine' wpAnyH_take (i := 7) (v := undef) ?_ ?_ ?_ ?_ ?_ ?_ ?_ ?_
    rotate_left 1
    focus (simp only [List.getElem?_toArray, List.getElem?_cons_succ, List.getElem?_cons_zero]; rfl)
    focus kernel_rfl
    focus kernel_rfl
    focus kernel_rfl
    focus exact (fun _ _ _ h => h)
    refine Or.inr ⟨?_, rfl⟩
    focus (go_simp; done)
    focus assumption
    (try simp only [Act.put, List.setIfInBounds_toArray, List.set_cons_zero, List.set_cons_succ])
    refine' wpAnyH_take (i := 8) (v := undef) ?_ ?_ ?_ ?_ ?_ ?_ ?_ ?_
    rotate_left 1
    focus (simp only [List.getElem?_toArray, List.getElem?_cons_succ, List.getElem?_cons_zero]; rfl)
    focus kernel_rfl
    focus kernel_rfl
    focus kernel_rfl
    focus exact (fun _ _ _ h => h)
    refine Or.inr ⟨?_, rfl⟩
    focus (go_simp; done)
    focus assumption
    (try simp only [Act.put, List.setIfInBounds_toArray, List.set_cons_zero, List.set_cons_succ])
    refine' wpAnyH_take (i := 9) (v := _) ?_ ?_ ?_ ?_ ?_ ?_ ?_ ?_
    rotate_left 2
    focus (simp only [List.getElem?_toArray, List.getElem?_cons_succ, List.getElem?_cons_zero]; rfl)
    focus kernel_rfl
    focus kernel_rfl
    focus kernel_rfl
    focus exact (fun _ _ _ h => h)
    refine Or.inl ⟨?_, ?_⟩
    focus (go_simp; done)
    focus (intro w hSw; obtain ⟨_, a0, a1⟩ := hSw; (first | (go_simp; done) | (go_simp; with_reducible rfl)))
    focus assumption
    (try simp only [Act.put, List.setIfInBounds_toArray, List.set_cons_zero, List.set_cons_succ])
    refine' wpAnyH_take (i := 10) (v := _) ?_ ?_ ?_ ?_ ?_ ?_ ?_ ?_
    rotate_left 2
    focus (simp only [List.getElem?_toArray, List.getElem?_cons_succ, List.getElem?_cons_zero]; rfl)
    focus kernel_rfl
    focus kernel_rfl
    focus kernel_rfl
    focus exact (fun _ _ _ h => h)
    refine Or.inl ⟨?_, ?_⟩
    focus (go_simp; done)
    focus (intro w hSw; obtain ⟨_, a0, a1⟩ := hSw; (first | (go_simp; done) | (go_simp; with_reducible rfl)))
    focus assumption
    (try simp only [Act.put, List.setIfInBounds_toArray, List.set_cons_zero, List.set_cons_succ])
    refine' wpAnyH_take (i := 11) (v := undef) ?_ ?_ ?_ ?_ ?_ ?_ ?_ ?_
    rotate_left 1
    focus (simp only [List.getElem?_toArray, List.getElem?_cons_succ, List.getElem?_cons_zero]; rfl)
    focus kernel_rfl
    focus kernel_rfl
    focus kernel_rfl
    focus exact (fun _ _ _ h => h)
    refine Or.inr ⟨?_, rfl⟩
    focus (go_simp; done)
    focus assumption
    (try simp only [Act.put, List.setIfInBounds_toArray, List.set_cons_zero, List.set_cons_succ])
    refine' wpAnyH_take (i := 12) (v := undef) ?_ ?_ ?_ ?_ ?_ ?_ ?_ ?_
    rotate_left 1
    focus (simp only [List.getElem?_toArray, List.getElem?_cons_succ, List.getElem?_cons_zero]; rfl)
    focus kernel_rfl
    focus kernel_rfl
    focus kernel_rfl
    focus exact (fun _ _ _ h => h)
    refine Or.inr ⟨?_, rfl⟩
    focus (go_simp; done)
    focus assumption
    (try simp only [Act.put, List.setIfInBounds_toArray, List.set_cons_zero, List.set_cons_succ])
    refine' wpAnyH_take (i := 13) (v := undef) ?_ ?_ ?_ ?_ ?_ ?_ ?_ ?_
    rotate_left 1
    focus (simp only [List.getElem?_toArray, List.getElem?_cons_succ, List.getElem?_cons_zero]; rfl)
    focus kernel_rfl
    focus kernel_rfl
    focus kernel_rfl
    focus exact (fun _ _ _ h => h)
    refine Or.inr ⟨?_, rfl⟩
    focus (go_simp; done)
    focus assumption
    (try simp only [Act.put, List.setIfInBounds_toArray, List.set_cons_zero, List.set_cons_succ])
    refine' wpAnyH_take (i := 14) (v := undef) ?_ ?_ ?_ ?_ ?_ ?_ ?_ ?_
    rotate_left 1
    focus (simp only [List.getElem?_toArray, List.getElem?_cons_succ, List.getElem?_cons_zero]; rfl)
    focus kernel_rfl
    focus kernel_rfl
    focus kernel_rfl
    focus exact (fun _ _ _ h => h)
    refine Or.inr ⟨?_, rfl⟩
    focus (go_simp; done)
    focus assumption
    (try simp only [Act.put, List.setIfInBounds_toArray, List.set_cons_zero, List.set_cons_succ])
    refine' wpAnyH_take (i := 15) (v := undef) ?_ ?_ ?_ ?_ ?_ ?_ ?_ ?_
    rotate_left 1
    focus (simp only [List.getElem?_toArray, List.getElem?_cons_succ, List.getElem?_cons_zero]; rfl)
    focus kernel_rfl
    focus kernel_rfl
    focus kernel_rfl
    focus exact (fun _ _ _ h => h)
    refine Or.inr ⟨?_, rfl⟩
    focus (go_simp; done)
    focus assumption
    (try simp only [Act.put, List.setIfInBounds_toArray, List.set_cons_zero, List.set_cons_succ])
    refine' wpAnyH_take (i := 16) (v := undef) ?_ ?_ ?_ ?_ ?_ ?_ ?_ ?_
    rotate_left 1
    focus (simp only [List.getElem?_toArray, List.getElem?_cons_succ, List.getElem?_cons_zero]; rfl)
    focus kernel_rfl
    focus kernel_rfl
    focus kernel_rfl
    focus exact (fun _ _ _ h => h)
    refine Or.inr ⟨?_, rfl⟩
    focus (go_simp; done)
    focus assumption
    (try simp only [Act.put, List.setIfInBounds_toArray, List.set_cons_zero, List.set_cons_succ])
    refine' wpAnyH_take (i := 17) (v := undef) ?_ ?_ ?_ ?_ ?_ ?_ ?_ ?_
    rotate_left 1
    focus (simp only [List.getElem?_toArray, List.getElem?_cons_succ, List.getElem?_cons_zero]; rfl)
    focus kernel_rfl
    focus kernel_rfl
    focus kernel_rfl
    focus exact (fun _ _ _ h => h)
    refine Or.inr ⟨?_, rfl⟩
    focus (go_simp; done)
    focus assumption
    (try simp only [Act.put, List.setIfInBounds_toArray, List.set_cons_zero, List.set_cons_succ])
    refine' wpAnyH_take (i := 18) (v := _) ?_ ?_ ?_ ?_ ?_ ?_ ?_ ?_
    rotate_left 2
    focus (simp only [List.getElem?_toArray, List.getElem?_cons_succ, List.getElem?_cons_zero]; rfl)
    focus kernel_rfl
    focus kernel_rfl
    focus kernel_rfl
    focus exact (fun _ _ _ h => h)
    refine Or.inl ⟨?_, ?_⟩
    focus (go_simp; done)
    focus (intro w hSw; obtain ⟨_, a0, a1⟩ := hSw; (first | (go_simp; done) | (go_simp; with_reducible rfl)))
    focus assumption
    (try simp only [Act.put, List.setIfInBounds_toArray, List.set_cons_zero, List.set_cons_succ])
    refine' wpAnyH_take (i := 19) (v := _) ?_ ?_ ?_ ?_ ?_ ?_ ?_ ?_
    rotate_left 2
    focus (simp only [List.getElem?_toArray, List.getElem?_cons_succ, List.getElem?_cons_zero]; rfl)
    focus kernel_rfl
    focus kernel_rfl
    focus kernel_rfl
    focus exact (fun _ _ _ h => h)
    refine Or.inl ⟨?_, ?_⟩
    focus (go_simp; done)
    focus (intro w hSw; obtain ⟨_, a0, a1⟩ := hSw; (first | (go_simp; done) | (go_simp; with_reducible rfl)))
    focus assumption
    (try simp only [Act.put, List.setIfInBounds_toArray, List.set_cons_zero, List.set_cons_succ])
    refine wpAnyH_done (by kernel_rfl) ?_ _
    go_wp2
    go_ret
    exact ⟨ret_bool (HF.out), hHeld.1.1⟩
  · have he := rs_eql m r (-1) 0 false (by simp; omega)
    by_cases h1 : m = 0 ∧ r = wrap32 r
    · have he2 := rs_eql m r (Rs.sing r).m (Rs.sing r).r true (by show ((m == 0) && (r == wrap32 r)) = true; simp only [Bool.and_eq_true, beq_iff_eq]; exact h1)
      have HF := Lib.hid (show true = b by rw [← h, Rs.ok_one h1])
      clear h0 h h1
      go_enter Tryd.func19, Tryd.ntmps19
      go_wp2_with fail
      refine wp_region_held_drew (S := (fun w' => C1 w ⟨m, r⟩ w')) (by kernel_rfl) (hB.drew) (fun hHeld => ?_)
      generalize (w.alloc (.cells #[.int .i64 m, .int .i64 r] 23)).drew = u0 at *
      clear hB
      refine' wpAnyH_take (i := 0) (v := _) ?_ ?_ ?_ ?_ ?_ ?_ ?_ ?_
      rotate_left 2
      focus (simp only [List.getElem?_toArray, List.getElem?_cons_succ, List.getElem?_cons_zero]; rfl)
      focus kernel_rfl
      focus kernel_rfl
      focus kernel_rfl
      focus exact (fun _ _ _ h => h)
      refine Or.inl ⟨?_, ?_⟩
      focus (go_simp; done)
      focus (intro w hSw; obtain ⟨_, a0, a1⟩ := hSw; (first | (go_simp; done) | (go_simp; with_reducible rfl)))
      focus assumption
      (try simp only [Act.put, List.setIfInBounds_toArray, List.set_cons_zero, List.set_cons_succ])
      refine wpAnyH_ready (rs := [1]) (by kernel_rfl) (by simp) ?_
      refine' AllReadyH.cons ?_ (fun K hK => ?_) AllReadyH.nil
      rotate_left
      focus (simp only [List.getElem?_toArray, List.getElem?_cons_succ, List.getElem?_cons_zero]; rfl)
      go_simp
      (go_at_call 11; (with_reducible refine (cNone_any _).mono ?_); rintro e u1 ⟨rfl, hb⟩)
      have hS := C1.below hHeld hb
      clear hb
      refine hK.out _ _ hS (fun hHeld => ?_)
      clear hK K hS
      (try simp only [Act.put, List.setIfInBounds_toArray, List.set_cons_zero, List.set_cons_succ])
      refine' wpAnyH_take (i := 2) (v := _) ?_ ?_ ?_ ?_ ?_ ?_ ?_ ?_
      rotate_left 2
      focus (simp only [List.getElem?_toArray, List.getElem?_cons_succ, List.getElem?_cons_zero]; rfl)
      focus kernel_rfl
      focus kernel_rfl
      focus kernel_rfl
      focus exact (fun _ _ _ h => h)
      refine Or.inl ⟨?_, ?_⟩
      focus (go_simp; done)
      focus (intro w hSw; obtain ⟨_, a0, a1⟩ := hSw; (first | (go_simp; done) | (go_simp; with_reducible rfl)))
      focus assumption
      (try simp only [Act.put, List.setIfInBounds_toArray, List.set_cons_zero, List.set_cons_succ])
      refine' wpAnyH_take (i := 3) (v := _) ?_ ?_ ?_ ?_ ?_ ?_ ?_ ?_
      rotate_left 2
      focus (simp only [List.getElem?_toArray, List.getElem?_cons_succ, List.getElem?_cons_zero]; rfl)
      focus kernel_rfl
      focus kernel_rfl
      focus kernel_rfl
      focus exact (fun _ _ _ h => h)
      refine Or.inl ⟨?_, ?_⟩
      focus (go_simp; done)
      focus (intro w hSw; obtain ⟨_, a0, a1⟩ := hSw; (first | (go_simp; done) | (go_simp; with_reducible rfl)))
      focus assumption
      (try simp only [Act.put, List.setIfInBounds_toArray, List.set_cons_zero, List.set_cons_succ])
      refine' wpAnyH_take (i := 4) (v := _) ?_ ?_ ?_ ?_ ?_ ?_ ?_ ?_
      rotate_left 2
      focus (simp only [List.getElem?_toArray, List.getElem?_cons_succ, List.getElem?_cons_zero]; rfl)
      focus kernel_rfl
      focus kernel_rfl
      focus kernel_rfl
      focus exact (fun _ _ _ h => h)
      refine Or.inl ⟨?_, ?_⟩
      focus (go_simp; done)
      focus (intro w hSw; obtain ⟨_, a0, a1⟩ := hSw; (first | (go_simp; done) | (go_simp; with_reducible rfl)))
      focus assumption
      (try simp only [Act.put, List.setIfInBounds_toArray, List.set_cons_zero, List.set_cons_succ])
      refine' wpAnyH_take (i := 5) (v := _) ?_ ?_ ?_ ?_ ?_ ?_ ?_ ?_
      rotate_left 2
      focus (simp only [List.getElem?_toArray, List.getElem?_cons_succ, List.getElem?_cons_zero]; rfl)
      focus kernel_rfl
      focus kernel_rfl
      focus kernel_rfl
      focus exact (fun _ _ _ h => h)
      refine Or.inl ⟨?_, ?_⟩
      focus (go_simp; done)
      focus (intro w hSw; obtain ⟨_, a0, a1⟩ := hSw; (first | (go_simp; done) | (go_simp; with_reducible rfl)))
      focus assumption
      (try simp only [Act.put, List.setIfInBounds_toArray, List.set_cons_zero, List.set_cons_succ])
      refine' wpAnyH_take (i := 6) (v := _) ?_ ?_ ?_ ?_ ?_ ?_ ?_ ?_
      rotate_left 2
      focus (simp only [List.getElem?_toArray, List.getElem?_cons_succ, List.getElem?_cons_zero]; rfl)
      focus kernel_rfl
      focus kernel_rfl
      focus kernel_rfl
      focus exact (fun _ _ _ h => h)
      refine Or.inl ⟨?_, ?_⟩
      focus (go_simp; done)
      focus (intro w hSw; obtain ⟨_, a0, a1⟩ := hSw; (first | (go_simp; done) | (go_simp; with_reducible rfl)))
      focus assumption
      (try simp only [Act.put, List.setIfInBounds_toArray, List.set_cons_zero, List.set_cons_succ])
      refine wpAnyH_ready (rs := [7]) (by kernel_rfl) (by simp) ?_
      refine' AllReadyH.cons ?_ (fun K hK => ?_) AllReadyH.nil
      rotate_left
      focus (simp only [List.getElem?_toArray, List.getElem?_cons_succ, List.getElem?_cons_zero]; rfl)
      go_simp
      (go_at_call 23; (with_reducible refine (cOf_any r (Rs.sing r) rfl _).mono ?_); rintro e u7 ⟨rfl, hb⟩)
      have hS := C1.below hHeld hb
      clear hb
      refine hK.out _ _ hS (fun hHeld => ?_)
      clear hK K hS
      (try simp only [Act.put, List.setIfInBounds_toArray, List.set_cons_zero, List.set_cons_succ])
      refine' wpAnyH_take (i := 8) (v := _) ?_ ?_ ?_ ?_ ?_ ?_ ?_ ?_
      rotate_left 2
      focus (simp only [List.getElem?_toArray, List.getElem?_cons_succ, List.getElem?_cons_zero]; rfl)
      focus kernel_rfl
      focus kernel_rfl
      focus kernel_rfl
      focus exact (fun _ _ _ h => h)
      refine Or.inl ⟨?_, ?_⟩
      focus (go_simp; done)
      focus (intro w hSw; obtain ⟨_, a0, a1⟩ := hSw; (first | (go_simp; done) | (go_simp; with_reducible rfl)))
      focus assumption
      (try simp only [Act.put, List.setIfInBounds_toArray, List.set_cons_zero, List.set_cons_succ])
      refine' wpAnyH_take (i := 9) (v := _) ?_ ?_ ?_ ?_ ?_ ?_ ?_ ?_
      rotate_left 2
      focus (simp only [List.getElem?_toArray, List.getElem?_cons_succ, List.getElem?_cons_zero]; rfl)
      focus kernel_rfl
      focus kernel_rfl
      focus kernel_rfl
      focus exact (fun _ _ _ h => h)
      refine Or.inl ⟨?_, ?_⟩
      focus (go_simp; done)
      focus (intro w hSw; obtain ⟨_, a0, a1⟩ := hSw; (first | (go_simp; done) | (go_simp; with_reducible rfl)))
      focus assumption
      (try simp only [Act.put, List.setIfInBounds_toArray, List.set_cons_zero, List.set_cons_succ])
      refine' wpAnyH_take (i := 10) (v := _) ?_ ?_ ?_ ?_ ?_ ?_ ?_ ?_
      rotate_left 2
      focus (simp only [List.getElem?_toArray, List.getElem?_cons_succ, List.getElem?_cons_zero]; rfl)
      focus kernel_rfl
      focus kernel_rfl
      focus kernel_rfl
      focus exact (fun _ _ _ h => h)
      refine Or.inl ⟨?_, ?_⟩
      focus (go_simp; done)
      focus (intro w hSw; obtain ⟨_, a0, a1⟩ := hSw; (first | (go_simp; done) | (go_simp; with_reducible rfl)))
      focus assumption
      (try simp only [Act.put, List.setIfInBounds_toArray, List.set_cons_zero, List.set_cons_succ])
      refine' wpAnyH_take (i := 11) (v := undef) ?_ ?_ ?_ ?_ ?_ ?_ ?_ ?_
      rotate_left 1
      focus (simp only [List.getElem?_toArray, List.getElem?_cons_succ, List.getElem?_cons_zero]; rfl)
      focus kernel_rfl
      focus kernel_rfl
      focus kernel_rfl
      focus exact (fun _ _ _ h => h)
      refine Or.inr ⟨?_, rfl⟩
      focus (go_simp; done)
      focus assumption
      (try simp only [Act.put, List.setIfInBounds_toArray, List.set_cons_zero, List.set_cons_succ])
      refine' wpAnyH_take (i := 12) (v := undef) ?_ ?_ ?_ ?_ ?_ ?_ ?_ ?_
      rotate_left 1
      focus (simp only [List.getElem?_toArray, List.getElem?_cons_succ, List.getElem?_cons_zero]; rfl)
      focus kernel_rfl
      focus kernel_rfl
      focus kernel_rfl
      focus exact (fun _ _ _ h => h)
      refine Or.inr ⟨?_, rfl⟩
      focus (go_simp; done)
      focus assumption
      (try simp only [Act.put, List.setIfInBounds_toArray, List.set_cons_zero, List.set_cons_succ])
      refine' wpAnyH_take (i := 13) (v := undef) ?_ ?_ ?_ ?_ ?_ ?_ ?_ ?_
      rotate_left 1
      focus (simp only [List.getElem?_toArray, List.getElem?_cons_succ, List.getElem?_cons_zero]; rfl)
      focus kernel_rfl
      focus kernel_rfl
      focus kernel_rfl
      focus exact (fun _ _ _ h => h)
      refine Or.inr ⟨?_, rfl⟩
      focus (go_simp; done)
      focus assumption
      (try simp only [Act.put, List.setIfInBounds_toArray, List.set_cons_zero, List.set_cons_succ])
      refine' wpAnyH_take (i := 14) (v := undef) ?_ ?_ ?_ ?_ ?_ ?_ ?_ ?_
      rotate_left 1
      focus (simp only [List.getElem?_toArray, List.getElem?_cons_succ, List.getElem?_cons_zero]; rfl)
      focus kernel_rfl
      focus kernel_rfl
      focus kernel_rfl
      focus exact (fun _ _ _ h => h)
      refine Or.inr ⟨?_, rfl⟩
      focus (go_simp; done)
      focus assumption
      (try simp only [Act.put, List.setIfInBounds_toArray, List.set_cons_zero, List.set_cons_succ])
      refine' wpAnyH_take (i := 15) (v := undef) ?_ ?_ ?_ ?_ ?_ ?_ ?_ ?_
      rotate_left 1
      focus (simp only [List.getElem?_toArray, List.getElem?_cons_succ, List.getElem?_cons_zero]; rfl)
      focus kernel_rfl
      focus kernel_rfl
      focus kernel_rfl
      focus exact (fun _ _ _ h => h)
      refine Or.inr ⟨?_, rfl⟩
      focus (go_simp; done)
      focus assumption
      (try simp only [Act.put, List.setIfInBounds_toArray, List.set_cons_zero, List.set_cons_succ])
      refine' wpAnyH_take (i := 16) (v := undef) ?_ ?_ ?_ ?_ ?_ ?_ ?_ ?_
      rotate_left 1
      focus (simp only [List.getElem?_toArray, List.getElem?_cons_succ, List.getElem?_cons_zero]; rfl)
      focus kernel_rfl
      focus kernel_rfl
      focus kernel_rfl
      focus exact (fun _ _ _ h => h)
      refine Or.inr ⟨?_, rfl⟩
      focus (go_simp; done)
      focus assumption
      (try simp only [Act.put, List.setIfInBounds_toArray, List.set_cons_zero, List.set_cons_succ])
      refine' wpAnyH_take (i := 17) (v := undef) ?_ ?_ ?_ ?_ ?_ ?_ ?_ ?_
      rotate_left 1
      focus (simp only [List.getElem?_toArray, List.getElem?_cons_succ, List.getElem?_cons_zero]; rfl)
      focus kernel_rfl
      focus kernel_rfl
      focus kernel_rfl
      focus exact (fun _ _ _ h => h)
      refine Or.inr ⟨?_, rfl⟩
      focus (go_simp; done)
      focus assumption
      (try simp only [Act.put, List.setIfInBounds_toArray, List.set_cons_zero, List.set_cons_succ])
      refine' wpAnyH_take (i := 18) (v := _) ?_ ?_ ?_ ?_ ?_ ?_ ?_ ?_
      rotate_left 2
      focus (simp only [List.getElem?_toArray, List.getElem?_cons_succ, List.getElem?_cons_zero]; rfl)
      focus kernel_rfl
      focus kernel_rfl
      focus kernel_rfl
      focus exact (fun _ _ _ h => h)
      refine Or.inl ⟨?_, ?_⟩
      focus (go_simp; done)
      focus (intro w hSw; obtain ⟨_, a0, a1⟩ := hSw; (first | (go_simp; done) | (go_simp; with_reducible rfl)))
      focus assumption
      (try simp only [Act.put, List.setIfInBounds_toArray, List.set_cons_zero, List.set_cons_succ])
      refine' wpAnyH_take (i := 19) (v := _) ?_ ?_ ?_ ?_ ?_ ?_ ?_ ?_
      rotate_left 2
      focus (simp only [List.getElem?_toArray, List.getElem?_cons_succ, List.getElem?_cons_zero]; rfl)
      focus kernel_rfl
      focus kernel_rfl
      focus kernel_rfl
      focus exact (fun _ _ _ h => h)
      refine Or.inl ⟨?_, ?_⟩
      focus (go_simp; done)
      focus (intro w hSw; obtain ⟨_, a0, a1⟩ := hSw; (first | (go_simp; done) | (go_simp; with_reducible rfl)))
      focus assumption
      (try simp only [Act.put, List.setIfInBounds_toArray, List.set_cons_zero, List.set_cons_succ])
      refine wpAnyH_done (by kernel_rfl) ?_ _
      go_wp2
      go_ret
      exact ⟨ret_bool (HF.out), hHeld.1.1⟩
    · have he2 := rs_eql m r (Rs.sing r).m (Rs.sing r).r false (by show ((m == 0) && (r == wrap32 r)) = false; simp only [Bool.and_eq_false_imp, beq_iff_eq, beq_eq_false_iff_ne]; exact fun a b => h1 ⟨a, b⟩)
      obtain ⟨k, hk⟩ : ∃ k, Rs.sz m = k := ⟨_, rfl⟩
      obtain ⟨z, hz⟩ : ∃ z, Rs.low r k = z := ⟨_, rfl⟩
      have he3 := rs_eql m r z.m z.r b (by rw [← h, Rs.ok_low h0 h1, hk, hz])
      have HS := Lib.hid hk
      have HL := Lib.hid hz
      clear h0 h h1 hk hz
      go_enter Tryd.func19, Tryd.ntmps19
      go_wp2_with fail
      refine wp_region_held_drew (S := (fun w' => C1 w ⟨m, r⟩ w')) (by kernel_rfl) (hB.drew) (fun hHeld => ?_)
      generalize (w.alloc (.cells #[.int .i64 m, .int .i64 r] 23)).drew = u0 at *
      clear hB
      refine' wpAnyH_take (i := 0) (v := _) ?_ ?_ ?_ ?_ ?_ ?_ ?_ ?_
      rotate_left 2
      focus (simp only [List.getElem?_toArray, List.getElem?_cons_succ, List.getElem?_cons_zero]; rfl)
      focus kernel_rfl
      focus kernel_rfl
      focus kernel_rfl
      focus exact (fun _ _ _ h => h)
      refine Or.inl ⟨?_, ?_⟩
      focus (go_simp; done)
      focus (intro w hSw; obtain ⟨_, a0, a1⟩ := hSw; (first | (go_simp; done) | (go_simp; with_reducible rfl)))
      focus assumption
      (try simp only [Act.put, List.setIfInBounds_toArray, List.set_cons_zero, List.set_cons_succ])
      refine wpAnyH_ready (rs := [1]) (by kernel_rfl) (by simp) ?_
      refine' AllReadyH.cons ?_ (fun K hK => ?_) AllReadyH.nil
      rotate_left
      focus (simp only [List.getElem?_toArray, List.getElem?_cons_succ, List.getElem?_cons_zero]; rfl)
      go_simp
      (go_at_call 11; (with_reducible refine (cNone_any _).mono ?_); rintro e u1 ⟨rfl, hb⟩)
      have hS := C1.below hHeld hb
      clear hb
      refine hK.out _ _ hS (fun hHeld => ?_)
      clear hK K hS
      (try simp only [Act.put, List.setIfInBounds_toArray, List.set_cons_zero, List.set_cons_succ])
      refine' wpAnyH_take (i := 2) (v := _) ?_ ?_ ?_ ?_ ?_ ?_ ?_ ?_
      rotate_left 2
      focus (simp only [List.getElem?_toArray, List.getElem?_cons_succ, List.getElem?_cons_zero]; rfl)
      focus kernel_rfl
      focus kernel_rfl
      focus kernel_rfl
      focus exact (fun _ _ _ h => h)
      refine Or.inl ⟨?_, ?_⟩
      focus (go_simp; done)
      focus (intro w hSw; obtain ⟨_, a0, a1⟩ := hSw; (first | (go_simp; done) | (go_simp; with_reducible rfl)))
      focus assumption
      (try simp only [Act.put, List.setIfInBounds_toArray, List.set_cons_zero, List.set_cons_succ])
      refine' wpAnyH_take (i := 3) (v := _) ?_ ?_ ?_ ?_ ?_ ?_ ?_ ?_
      rotate_left 2
      focus (simp only [List.getElem?_toArray, List.getElem?_cons_succ, List.getElem?_cons_zero]; rfl)
      focus kernel_rfl
      focus kernel_rfl
      focus kernel_rfl
      focus exact (fun _ _ _ h => h)
      refine Or.inl ⟨?_, ?_⟩
      focus (go_simp; done)
      focus (intro w hSw; obtain ⟨_, a0, a1⟩ := hSw; (first | (go_simp; done) | (go_simp; with_reducible rfl)))
      focus assumption
      (try simp only [Act.put, List.setIfInBounds_toArray, List.set_cons_zero, List.set_cons_succ])
      refine' wpAnyH_take (i := 4) (v := _) ?_ ?_ ?_ ?_ ?_ ?_ ?_ ?_
      rotate_left 2
      focus (simp only [List.getElem?_toArray, List.getElem?_cons_succ, List.getElem?_cons_zero]; rfl)
      focus kernel_rfl
      focus kernel_rfl
      focus kernel_rfl
      focus exact (fun _ _ _ h => h)
      refine Or.inl ⟨?_, ?_⟩
      focus (go_simp; done)
      focus (intro w hSw; obtain ⟨_, a0, a1⟩ := hSw; (first | (go_simp; done) | (go_simp; with_reducible rfl)))
      focus assumption
      (try simp only [Act.put, List.setIfInBounds_toArray, List.set_cons_zero, List.set_cons_succ])
      refine' wpAnyH_take (i := 5) (v := _) ?_ ?_ ?_ ?_ ?_ ?_ ?_ ?_
      rotate_left 2
      focus (simp only [List.getElem?_toArray, List.getElem?_cons_succ, List.getElem?_cons_zero]; rfl)
      focus kernel_rfl
      focus kernel_rfl
      focus kernel_rfl
      focus exact (fun _ _ _ h => h)
      refine Or.inl ⟨?_, ?_⟩
      focus (go_simp; done)
      focus (intro w hSw; obtain ⟨_, a0, a1⟩ := hSw; (first | (go_simp; done) | (go_simp; with_reducible rfl)))
      focus assumption
      (try simp only [Act.put, List.setIfInBounds_toArray, List.set_cons_zero, List.set_cons_succ])
      refine' wpAnyH_take (i := 6) (v := _) ?_ ?_ ?_ ?_ ?_ ?_ ?_ ?_
      rotate_left 2
      focus (simp only [List.getElem?_toArray, List.getElem?_cons_succ, List.getElem?_cons_zero]; rfl)
      focus kernel_rfl
      focus kernel_rfl
      focus kernel_rfl
      focus exact (fun _ _ _ h => h)
      refine Or.inl ⟨?_, ?_⟩
      focus (go_simp; done)
      focus (intro w hSw; obtain ⟨_, a0, a1⟩ := hSw; (first | (go_simp; done) | (go_simp; with_reducible rfl)))
      focus assumption
      (try simp only [Act.put, List.setIfInBounds_toArray, List.set_cons_zero, List.set_cons_succ])
      refine wpAnyH_ready (rs := [7]) (by kernel_rfl) (by simp) ?_
      refine' AllReadyH.cons ?_ (fun K hK => ?_) AllReadyH.nil
      rotate_left
      focus (simp only [List.getElem?_toArray, List.getElem?_cons_succ, List.getElem?_cons_zero]; rfl)
      go_simp
      (go_at_call 23; (with_reducible refine (cOf_any r (Rs.sing r) rfl _).mono ?_); rintro e u7 ⟨rfl, hb⟩)
      have hS := C1.below hHeld hb
      clear hb
      refine hK.out _ _ hS (fun hHeld => ?_)
      clear hK K hS
      (try simp only [Act.put, List.setIfInBounds_toArray, List.set_cons_zero, List.set_cons_succ])
      refine' wpAnyH_take (i := 8) (v := _) ?_ ?_ ?_ ?_ ?_ ?_ ?_ ?_
      rotate_left 2
      focus (simp only [List.getElem?_toArray, List.getElem?_cons_succ, List.getElem?_cons_zero]; rfl)
      focus kernel_rfl
      focus kernel_rfl
      focus kernel_rfl
      focus exact (fun _ _ _ h => h)
      refine Or.inl ⟨?_, ?_⟩
      focus (go_simp; done)
      focus (intro w hSw; obtain ⟨_, a0, a1⟩ := hSw; (first | (go_simp; done) | (go_simp; with_reducible rfl)))
      focus assumption
      (try simp only [Act.put, List.setIfInBounds_toArray, List.set_cons_zero, List.set_cons_succ])
      refine' wpAnyH_take (i := 9) (v := _) ?_ ?_ ?_ ?_ ?_ ?_ ?_ ?_
      rotate_left 2
      focus (simp only [List.getElem?_toArray, List.getElem?_cons_succ, List.getElem?_cons_zero]; rfl)
      focus kernel_rfl
      focus kernel_rfl
      focus kernel_rfl
      focus exact (fun _ _ _ h => h)
      refine Or.inl ⟨?_, ?_⟩
      focus (go_simp; done)
      focus (intro w hSw; obtain ⟨_, a0, a1⟩ := hSw; (first | (go_simp; done) | (go_simp; with_reducible rfl)))
      focus assumption
      (try simp only [Act.put, List.setIfInBounds_toArray, List.set_cons_zero, List.set_cons_succ])
      refine' wpAnyH_take (i := 10) (v := _) ?_ ?_ ?_ ?_ ?_ ?_ ?_ ?_
      rotate_left 2
      focus (simp only [List.getElem?_toArray, List.getElem?_cons_succ, List.getElem?_cons_zero]; rfl)
      focus kernel_rfl
      focus kernel_rfl
      focus kernel_rfl
      focus exact (fun _ _ _ h => h)
      refine Or.inl ⟨?_, ?_⟩
      focus (go_simp; done)
      focus (intro w hSw; obtain ⟨_, a0, a1⟩ := hSw; (first | (go_simp; done) | (go_simp; with_reducible rfl)))
      focus assumption
      (try simp only [Act.put, List.setIfInBounds_toArray, List.set_cons_zero, List.set_cons_succ])
      refine' wpAnyH_take (i := 11) (v := _) ?_ ?_ ?_ ?_ ?_ ?_ ?_ ?_
      rotate_left 2
      focus (simp only [List.getElem?_toArray, List.getElem?_cons_succ, List.getElem?_cons_zero]; rfl)
      focus kernel_rfl
      focus kernel_rfl
      focus kernel_rfl
      focus exact (fun _ _ _ h => h)
      refine Or.inl ⟨?_, ?_⟩
      focus (go_simp; done)
      focus (intro w hSw; obtain ⟨_, a0, a1⟩ := hSw; (first | (go_simp; done) | (go_simp; with_reducible rfl)))
      focus assumption
      (try simp only [Act.put, List.setIfInBounds_toArray, List.set_cons_zero, List.set_cons_succ])
      refine' wpAnyH_take (i := 12) (v := _) ?_ ?_ ?_ ?_ ?_ ?_ ?_ ?_
      rotate_left 2
      focus (simp only [List.getElem?_toArray, List.getElem?_cons_succ, List.getElem?_cons_zero]; rfl)
      focus kernel_rfl
      focus kernel_rfl
      focus kernel_rfl
      focus exact (fun _ _ _ h => h)
      refine Or.inl ⟨?_, ?_⟩
      focus (go_simp; done)
      focus (intro w hSw; obtain ⟨_, a0, a1⟩ := hSw; (first | (go_simp; done) | (go_simp; with_reducible rfl)))
      focus assumption
      (try simp only [Act.put, List.setIfInBounds_toArray, List.set_cons_zero, List.set_cons_succ])
      refine' wpAnyH_take (i := 13) (v := _) ?_ ?_ ?_ ?_ ?_ ?_ ?_ ?_
      rotate_left 2
      focus (simp only [List.getElem?_toArray, List.getElem?_cons_succ, List.getElem?_cons_zero]; rfl)
      focus kernel_rfl
      focus kernel_rfl
      focus kernel_rfl
      focus exact (fun _ _ _ h => h)
      refine Or.inl ⟨?_, ?_⟩
      focus (go_simp; done)
      focus (intro w hSw; obtain ⟨_, a0, a1⟩ := hSw; (first | (go_simp; done) | (go_simp; with_reducible rfl)))
      focus assumption
      (try simp only [Act.put, List.setIfInBounds_toArray, List.set_cons_zero, List.set_cons_succ])
      refine' wpAnyH_take (i := 14) (v := _) ?_ ?_ ?_ ?_ ?_ ?_ ?_ ?_
      rotate_left 2
      focus (simp only [List.getElem?_toArray, List.getElem?_cons_succ, List.getElem?_cons_zero]; rfl)
      focus kernel_rfl
      focus kernel_rfl
      focus kernel_rfl
      focus exact (fun _ _ _ h => h)
      refine Or.inl ⟨?_, ?_⟩
      focus (go_simp; done)
      focus (intro w hSw; obtain ⟨_, a0, a1⟩ := hSw; (first | (go_simp; done) | (go_simp; with_reducible rfl)))
      focus assumption
      (try simp only [Act.put, List.setIfInBounds_toArray, List.set_cons_zero, List.set_cons_succ])
      refine wpAnyH_ready (rs := [15]) (by kernel_rfl) (by simp) ?_
      refine' AllReadyH.cons ?_ (fun K hK => ?_) AllReadyH.nil
      rotate_left
      focus (simp only [List.getElem?_toArray, List.getElem?_cons_succ, List.getElem?_cons_zero]; rfl)
      go_simp
      (have hTu := HTb.out.below (hHeld.1.1); go_at_call 39; (with_reducible refine (size_any m r k HS.out _ hTu).mono ?_); clear hTu; rintro e u15 ⟨rfl, hb⟩)
      have hS := C1.below hHeld hb
      clear hb
      refine hK.out _ _ hS (fun hHeld => ?_)
      clear hK K hS
      (try simp only [Act.put, List.setIfInBounds_toArray, List.set_cons_zero, List.set_cons_succ])
      refine wpAnyH_ready (rs := [16]) (by kernel_rfl) (by simp) ?_
      refine' AllReadyH.cons ?_ (fun K hK => ?_) AllReadyH.nil
      rotate_left
      focus (simp only [List.getElem?_toArray, List.getElem?_cons_succ, List.getElem?_cons_zero]; rfl)
      go_simp
      (go_at_call 38; (with_reducible refine (class_any r k z HL.out _).mono ?_); rintro e u16 ⟨rfl, hb⟩)
      have hS := C1.below hHeld hb
      clear hb
      refine hK.out _ _ hS (fun hHeld => ?_)
      clear hK K hS
      (try simp only [Act.put, List.setIfInBounds_toArray, List.set_cons_zero, List.set_cons_succ])
      refine' wpAnyH_take (i := 17) (v := _) ?_ ?_ ?_ ?_ ?_ ?_ ?_ ?_
      rotate_left 2
      focus (simp only [List.getElem?_toArray, List.getElem?_cons_succ, List.getElem?_cons_zero]; rfl)
      focus kernel_rfl
      focus kernel_rfl
      focus kernel_rfl
      focus exact (fun _ _ _ h => h)
      refine Or.inl ⟨?_, ?_⟩
      focus (go_simp; done)
      focus (intro w hSw; obtain ⟨_, a0, a1⟩ := hSw; (first | (go_simp; done) | (go_simp; with_reducible rfl)))
      focus assumption
      (try simp only [Act.put, List.setIfInBounds_toArray, List.set_cons_zero, List.set_cons_succ])
      refine' wpAnyH_take (i := 18) (v := _) ?_ ?_ ?_ ?_ ?_ ?_ ?_ ?_
      rotate_left 2
      focus (simp only [List.getElem?_toArray, List.getElem?_cons_succ, List.getElem?_cons_zero]; rfl)
      focus kernel_rfl
      focus kernel_rfl
      focus kernel_rfl
      focus exact (fun _ _ _ h => h)
      refine Or.inl ⟨?_, ?_⟩
      focus (go_simp; done)
      focus (intro w hSw; obtain ⟨_, a0, a1⟩ := hSw; (first | (go_simp; done) | (go_simp; with_reducible rfl)))
      focus assumption
      (try simp only [Act.put, List.setIfInBounds_toArray, List.set_cons_zero, List.set_cons_succ])
      refine' wpAnyH_take (i := 19) (v := _) ?_ ?_ ?_ ?_ ?_ ?_ ?_ ?_
      rotate_left 2
      focus (simp only [List.getElem?_toArray, List.getElem?_cons_succ, List.getElem?_cons_zero]; rfl)
      focus kernel_rfl
      focus kernel_rfl
      focus kernel_rfl
      focus exact (fun _ _ _ h => h)
      refine Or.inl ⟨?_, ?_⟩
      focus (go_simp; done)
      focus (intro w hSw; obtain ⟨_, a0, a1⟩ := hSw; (first | (go_simp; done) | (go_simp; with_reducible rfl)))
      focus assumption
      (try simp only [Act.put, List.setIfInBounds_toArray, List.set_cons_zero, List.set_cons_succ])
      refine wpAnyH_done (by kernel_rfl) ?_ _
      go_wp2
      go_ret
      exact ⟨ret_bool rfl, hHeld.1.1⟩
theorem taken_any (m r : Int) (z : Rs) (h : Rs.form ⟨m, r⟩ = z) (w : World) (htb : Tb w) : Calls Tryd.prog 31 #[.agg #[.int .i64 m, .int .i64 r]] w fun e w' => e = .returned (.agg #[.int .i64 z.m, .int .i64 z.r]) ∧ Below w.heap.size w w' := by
  have hA := ((Ahead.refl w).alloc (.cells #[.int .i64 m, .int .i64 r] 23)).alloc (.cells #[.int .i64 0, .int .i64 0] 23)
  have hTu := htb.below hA.1
  cases hk : Rs.ok ⟨m, r⟩
  · have hr : z = Rs.all := by rw [← h]; unfold Rs.form; rw [if_neg (by simp [hk])]
    subst hr
    have hK := Lib.hid hk
    clear hk h
    go_enter Tryd.func31, Tryd.ntmps31
    go_wp2_with fail
    refine (cValid_any m r false hK.out _ hTu).mono ?_
    rintro e w1 ⟨rfl, hb⟩
    have hA1 := hA.below hb; obtain ⟨hc1, hf1⟩ := bcell hb; (try simp only [size_alloc] at hc1 hf1); clear hb; have hz10 : w.heap.size < w1.heap.size := (by have := hA1.2; omega); have hz11 : w.heap.size + 1 < w1.heap.size := (by have := hA1.2; omega)
    go_wp2_with fail
    refine (cAll_any _).mono ?_
    rintro e w2 ⟨rfl, hb⟩
    have hA2 := hA1.below hb; obtain ⟨hc2, hf2⟩ := bcell hb; (try simp only [size_alloc] at hc2 hf2); clear hb; have hz20 : w.heap.size < w2.heap.size := (by have := hA2.2; omega); have hz21 : w.heap.size + 1 < w2.heap.size := (by have := hA2.2; omega)
    go_wp2
    refine bodyPost_ret (v := .agg #[.int .i64 Rs.all.m, .int .i64 Rs.all.r]) ?_ rfl ⟨rfl, ((hA2.set (by omega) _).set (by omega) _).1⟩
    simp [results, Tryd.results31, go_sem, hc1, hc2, hz10, hz11, hz20, hz21, Rs.all]
  · have hr : z = ⟨m, r⟩ := by rw [← h]; unfold Rs.form; rw [if_pos hk]
    subst hr
    have hK := Lib.hid hk
    clear hk h
    go_enter Tryd.func31, Tryd.ntmps31
    go_wp2_with fail
    refine (cValid_any m r true hK.out _ hTu).mono ?_
    rintro e w1 ⟨rfl, hb⟩
    have hA1 := hA.below hb; obtain ⟨hc1, hf1⟩ := bcell hb; (try simp only [size_alloc] at hc1 hf1); clear hb; have hz10 : w.heap.size < w1.heap.size := (by have := hA1.2; omega); have hz11 : w.heap.size + 1 < w1.heap.size := (by have := hA1.2; omega)
    go_wp2
    refine bodyPost_ret (v := .agg #[.int .i64 m, .int .i64 r]) ?_ rfl ⟨rfl, ((hA1.set (by omega) _).set (by omega) _).1⟩
    simp [results, Tryd.results31, go_sem, hc1, hz10, hz11]
end Go.Proofs.YtmdakglbommopaaDoor
