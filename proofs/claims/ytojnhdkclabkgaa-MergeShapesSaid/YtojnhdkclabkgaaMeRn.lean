/- The code of layer 16: the small functions. No condition. The code of layer 16: a list is renumbered; whether blocks stay apart. No condition. A graph of the call's own while its blocks get other numbers. No condition. -/
import Derived.Test.YtojnhdkclabkgaaMeRws
import Derived.Test.YtojnhdkclabkgaaMeRen
import Derived.Test.YtojnhdkclabkgaaGrFind
import Derived.LoopTactic
import Derived.Test.YtojnhdkclabkgaaMeJoin
namespace Go.Proofs.Ytojnhdkclabkgaa
open Go.RowKit
set_option linter.unusedVariables false
set_option linter.unusedSimpArgs false
attribute [local go_sem] y_undef
theorem locks_any (A : Option Addr) (c : Nat) (l : List Gr.Op) (r : Bool) (hr : Me.lck l = r) (w : World) (ho : OpsIn w (.slice A l.length c) l) (hm : l.length ≤ 1000) :
    Calls Try.prog 141 #[.slice A l.length c] w fun e w' => e = .returned (.bool r) ∧ w' = w := by
  subst hr
  unfold Me.lck
  obtain ⟨A', c', e, ho⟩ := ho.opened
  injection e with e1 e2 e3
  subst e1 e3
  by_cases h0 : 0 < l.length
  · obtain ⟨b, off, rfl, hb, x0, -⟩ := ho 0 h0
    have h0' : (0 : Int) < (l.length : Int) := by omega
    generalize l.getD 0 Gr.op0 = o at x0 ⊢
    have x0' : w.cell? ⟨b, off, none⟩ = some (.int .i64 o.kind) := by simpa using x0
    have e1 : decide (0 < l.length) = true := by simpa using h0
    rw [e1]
    clear ho x0 e2 e1
    obtain ⟨kd, hkd⟩ : ∃ kd, o.kind = kd := ⟨_, rfl⟩
    rw [hkd] at x0' ⊢
    clear hkd
    generalize l.length = n at *
    by_cases h6 : kd = 6
    · subst h6
      go_enter Try.func141, Try.ntmps141
      go_wp2
      go_ret
      exact ⟨rfl, rfl⟩
    · have e6 : (kd == 6) = false := by simp [h6]
      have e7 : decide (kd = 6) = false := by simp [h6]
      rw [e7]
      go_enter Try.func141, Try.ntmps141
      go_wp2
      go_ret
      exact ⟨rfl, rfl⟩
  · have h0' : ¬ (0 : Int) < (l.length : Int) := by omega
    have e1 : decide (0 < l.length) = false := by simpa using h0
    rw [e1]
    clear ho e1
    generalize l.length = n at *
    go_enter Try.func141, Try.ntmps141
    go_wp2
    go_ret
    exact ⟨rfl, rfl⟩
theorem unlocks_any (A : Option Addr) (c : Nat) (l : List Gr.Op) (r : Bool) (hr : Me.unl l = r) (w : World) (ho : OpsIn w (.slice A l.length c) l) (hm : l.length ≤ 1000) :
    Calls Try.prog 140 #[.slice A l.length c] w fun e w' => e = .returned (.bool r) ∧ w' = w := by
  subst hr
  unfold Me.unl
  obtain ⟨A', c', e, ho⟩ := ho.opened
  injection e with e1 e2 e3
  subst e1 e3
  by_cases h0 : 0 < l.length
  · obtain ⟨b, off, rfl, hb, x0, -⟩ := ho (l.length - 1) (by omega)
    have e1 : decide (0 < l.length) = true := by simpa using h0
    rw [e1]
    generalize l.getD (l.length - 1) Gr.op0 = o at x0 ⊢
    obtain ⟨kd, hkd⟩ : ∃ kd, o.kind = kd := ⟨_, rfl⟩
    rw [hkd] at x0 ⊢
    clear ho hkd e1 e2
    obtain ⟨p, hp⟩ : ∃ p, l.length = p + 1 := ⟨l.length - 1, by omega⟩
    rw [hp, Nat.add_sub_cancel] at x0
    rw [hp] at h0 hm ⊢
    clear hp
    have h1 : (0 : Int) < (p : Int) + 1 := by omega
    have h2 : (0 : Int) ≤ (p : Int) := by omega
    have h3 : (p : Int) < (p : Int) + 1 := by omega
    by_cases h6 : kd = 7
    · subst h6
      have hw : wrap64 (p : Int) = (p : Int) := IntWalk.wrap64_in _ (by omega)
      go_enter Try.func140, Try.ntmps140
      go_wp2
      go_ret
      exact ⟨rfl, rfl⟩
    · have e6 : (kd == 7) = false := by simp [h6]
      have e7 : decide (kd = 7) = false := by simp [h6]
      rw [e7]
      have hw : wrap64 (p : Int) = (p : Int) := IntWalk.wrap64_in _ (by omega)
      go_enter Try.func140, Try.ntmps140
      go_wp2
      go_ret
      exact ⟨rfl, rfl⟩
  · have h0' : ¬ (0 : Int) < (l.length : Int) := by omega
    have e1 : decide (0 < l.length) = false := by simpa using h0
    rw [e1]
    clear ho e1
    generalize l.length = n at *
    go_enter Try.func140, Try.ntmps140
    go_wp2
    go_ret
    exact ⟨rfl, rfl⟩
theorem index_any (A : Option Addr) (n c : Nat) (f : Nat → Int) (x : Int) (w : World) (hv : ∀ k, k < n → ∃ b off, A = some ⟨b, off, none⟩ ∧ b < w.heap.size ∧ w.cell? ⟨b, off + k, none⟩ = some (.int .i64 (f k))) (hm : n ≤ 1000) :
    Calls Try.prog 157 #[.slice A n c, .int .i64 x] w fun e w' => ∃ z : Int, e = .returned (.int .i64 z) ∧ Fst (fun k => decide (f k = x)) n z ∧ w' = w := by
  have HV := Lib.hid hv
  clear hv
  go_enter Try.func157, Try.ntmps157
  go_wp2
  go_loop [8, 5] (fun i _ => ∃ k : Nat, k ≤ n ∧ i = .int .i64 k ∧ Hid (∀ j, j < k → decide (f j = x) = false)) (fun i _ => n - (intOf i).toNat)
  case atStart => exact ⟨0, Nat.zero_le _, rfl, Lib.hid fun j hj => absurd hj (Nat.not_lt_zero _)⟩
  case round =>
    obtain ⟨k, hk, rfl, HF⟩ := hrel
    by_cases hlt : k < n
    · have hlt' : (k : Int) < n := by omega
      have hlt0 : (0 : Int) ≤ (k : Int) := by omega
      obtain ⟨b, off, rfl, hb, hx⟩ := HV.out k hlt
      by_cases h : f k = x
      · have e : (x == f k) = true := by simp [h]
        have HX := Lib.hid (show decide (f k = x) = true by simp [h])
        clear h HV
        generalize f k = y at hx e
        go_wp2
        go_ret
        exact ⟨(k : Int), rfl, .inr ⟨k, hlt, rfl, HX.out, HF.out⟩, rfl⟩
      · have e : (x == f k) = false := by simp; exact fun e => h e.symm
        have HX := Lib.hid (show decide (f k = x) = false by simp [h])
        clear h HV
        generalize f k = y at hx e
        go_wp2
        go_round
        case rel => exact ⟨k + 1, by omega, by first | rfl | go_num, Lib.hid fun j hj => by rcases Nat.lt_succ_iff_lt_or_eq.1 hj with h | rfl; exact HF.out j h; exact HX.out⟩
        case measure => simp [intOf]; omega
    · have hlt' : ¬ (k : Int) < n := by omega
      obtain rfl : k = n := by omega
      go_wp2
      go_ret
      exact ⟨-1, rfl, .inl ⟨rfl, HF.out⟩, rfl⟩
theorem contains_any (v : Value) (l : List Int) (x : Int) (r : Bool) (hr : Me.has l x = r) (w : World) (hv : NumsIn w v l) (hm : l.length ≤ 1000) :
    Calls Try.prog 139 #[v, .int .i64 x] w fun e w' => e = .returned (.bool r) ∧ w' = w := by
  subst hr
  obtain ⟨A, c, rfl, ho⟩ := hv.opened
  have HC := Lib.hid (index_any A l.length c (fun k => l.getD k 0) x w ho hm)
  clear ho hv
  go_enter Try.func139, Try.ntmps139
  go_wp2_with fail
  refine HC.out.mono ?_
  rintro e w' ⟨z, rfl, hz, rfl⟩
  have HZ := Lib.hid (show Me.has l x = decide (0 ≤ z) from hz.any.symm)
  clear hz HC
  go_wp2
  go_ret
  exact ⟨ret_bool HZ.out.symm, rfl⟩
theorem place_any (n a b : Int) (hn : 0 ≤ n ∧ n ≤ 64) (ha : 0 ≤ a ∧ a ≤ 64) (hb : 0 ≤ b ∧ b ≤ 64) (r : Int) (hr : Me.place a b n = r) (w : World) :
    Calls Try.prog 111 #[.int .i64 n, .int .i64 a, .int .i64 b] w fun e w' => e = .returned (.int .i64 r) ∧ w' = w := by
  subst hr
  unfold Me.place
  by_cases h : n = b
  · have e : (n == b) = true := by simp [h]
    rw [if_pos h]
    by_cases h2 : a > b
    · rw [if_pos h2]
      have h3 : b < a := h2
      clear h h2
      have hw : wrap64 (a - 1) = a - 1 := IntWalk.wrap64_in _ (by omega)
      go_enter Try.func111, Try.ntmps111
      go_wp2
      go_ret
      exact ⟨rfl, rfl⟩
    · rw [if_neg h2]
      have h3 : ¬ b < a := h2
      clear h h2
      go_enter Try.func111, Try.ntmps111
      go_wp2
      go_ret
      exact ⟨rfl, rfl⟩
  · have e : (n == b) = false := by simp [h]
    rw [if_neg h]
    by_cases h2 : n > b
    · rw [if_pos h2]
      have h3 : b < n := h2
      clear h h2
      have hw : wrap64 (n - 1) = n - 1 := IntWalk.wrap64_in _ (by omega)
      go_enter Try.func111, Try.ntmps111
      go_wp2
      go_ret
      exact ⟨rfl, rfl⟩
    · rw [if_neg h2]
      have h3 : ¬ b < n := h2
      clear h h2
      go_enter Try.func111, Try.ntmps111
      go_wp2
      go_ret
      exact ⟨rfl, rfl⟩
/-- A list of which the first k elements have been changed. -/
def mx (f : Int → Int) (l : List Int) (k : Nat) : List Int := (l.take k).map f ++ l.drop k
theorem mx_len (f : Int → Int) (l : List Int) (k : Nat) : (mx f l k).length = l.length := by unfold mx; simp; omega
theorem mx_zero (f : Int → Int) (l : List Int) : mx f l 0 = l := by simp [mx]
theorem mx_all (f : Int → Int) (l : List Int) : mx f l l.length = l.map f := by simp [mx]
theorem mx_at (f : Int → Int) {l : List Int} {k : Nat} (h : k < l.length) : (mx f l k).getD k 0 = l.getD k 0 := by
  unfold mx
  rw [List.getD_eq_getElem?_getD, List.getElem?_append_right (by simp; omega)]
  simp [show k - min k l.length = 0 by omega]
theorem mx_set (f : Int → Int) {l : List Int} {k : Nat} (h : k < l.length) : (mx f l k).set k (f (l.getD k 0)) = mx f l (k + 1) := by
  have hl : ((l.take k).map f).length = k := by simp; omega
  unfold mx
  rw [List.drop_eq_getElem_cons h, List.set_append_right _ _ (by omega), hl, Nat.sub_self, List.set_cons_zero, List.take_add_one, List.getElem?_eq_getElem h, List.map_append]
  simp [List.getD, List.getElem?_eq_getElem h]
end Go.Proofs.Ytojnhdkclabkgaa
namespace Go.Proofs.Ytojnhdkclabkgaa
open Go.RowKit
set_option linter.unusedVariables false
set_option linter.unusedSimpArgs false
attribute [local go_sem] y_undef
/-- move. -/
def MovePost (base : Nat) (v : Value) (l : List Int) (f : Int → Int) (w : World) (e : Ending) (w' : World) : Prop :=
  e = .returned (.tuple #[]) ∧ w.grownBy w' v.ownBlock ∧ w'.ownsRow base 3 1 v (l.map f).length ((l.map f).map (.int .i64))
theorem move_any (base : Nat) (v : Value) (l : List Int) (a b : Int) (w : World) (hown : w.ownsRow base 3 1 v l.length (l.map (.int .i64))) (hl : ∀ x ∈ l, 0 ≤ x ∧ x ≤ 64) (hm : l.length ≤ 1000) (ha : 0 ≤ a ∧ a ≤ 64) (hb : 0 ≤ b ∧ b ≤ 64) :
    Calls Try.prog 109 #[v, .int .i64 a, .int .i64 b] w (MovePost base v l (Me.place a b) w) := by
  obtain ⟨A, C, rfl⟩ := own_eta hown
  have HL := Lib.hid hl
  have HAB := Lib.hid (And.intro ha hb)
  have HS := Lib.hid (show w.grownBy w (Value.slice A l.length C).ownBlock ∧ w.ownsRow base 3 1 (.slice A l.length C) (mx (Me.place a b) l 0).length ((mx (Me.place a b) l 0).map (.int .i64)) from ⟨World.grownBy.refl _ _, by rw [mx_zero]; exact hown⟩)
  obtain ⟨n, hn⟩ : ∃ n, l.length = n := ⟨_, rfl⟩
  have HN := Lib.hid hn
  rw [hn] at HS hm ⊢
  clear hl ha hb hown hn
  go_enter Try.func109, Try.ntmps109
  go_wp2
  go_loopw [10, 6, 7] (fun i _ _ wr => ∃ k : Nat, k ≤ n ∧ i = .int .i64 k ∧ Hid (w.grownBy wr (Value.slice A n C).ownBlock ∧ wr.ownsRow base 3 1 (.slice A n C) (mx (Me.place a b) l k).length ((mx (Me.place a b) l k).map (.int .i64)))) (fun i _ _ _ => n - (intOf i).toNat)
  case atStart => exact ⟨0, Nat.zero_le _, rfl, HS⟩
  case round =>
    clear HS
    obtain ⟨k, hk, rfl, HS⟩ := hrel
    by_cases hlt : k < n
    · have hlt' : (k : Int) < n := by omega
      have hlt0 : (0 : Int) ≤ (k : Int) := by omega
      have hkl : k < l.length := by rw [HN.out]; exact hlt
      obtain ⟨g, c, e, hg0, hg1, hc, hf⟩ := own_num HS.out.2 (i := k) (by rw [mx_len]; exact hkl)
      injection e with e1 e2 e3
      subst e1 e3
      clear e2
      have HSt := Lib.hid (show (World.setCell wr ⟨g, k, none⟩ (.int .i64 (Me.place a b (l.getD k 0)))).ownsRow base 3 1 (.slice (some ⟨g, 0, none⟩) n C) (mx (Me.place a b) l (k + 1)).length ((mx (Me.place a b) l (k + 1)).map (.int .i64)) from by
        have h := HS.out.2
        rw [mx_len, HN.out] at h
        have h2 := own_set (z := .int .i64 (Me.place a b (l.getD k 0))) h hlt
        rw [mx_len, HN.out, ← mx_set _ hkl, List.map_set]
        exact h2)
      have HGr := Lib.hid (HS.out.1.trans (grown_cell wr g k (.int .i64 (Me.place a b (l.getD k 0)))))
      rw [mx_at _ hkl] at hc
      have hx := HL.out _ (Me.getD_mem (d := (0 : Int)) hkl)
      have HPl := Lib.hid fun (W : World) => place_any (l.getD k 0) a b hx HAB.out.1 HAB.out.2 _ rfl W
      generalize l.getD k 0 = x at hc HPl HSt HGr
      clear HS hx hkl
      generalize Me.place a b x = y at HPl HSt HGr
      go_wp2_with fail
      refine (HPl.out _).mono ?_
      rintro e w' ⟨rfl, hw⟩
      obtain rfl := hw.symm
      go_wp2
      go_roundw
      case rel => exact ⟨k + 1, by omega, by first | rfl | go_num, Lib.hid ⟨HGr.out, HSt.out⟩⟩
      case measure => simp [intOf]; omega
    · have hlt' : ¬ (k : Int) < n := by omega
      obtain rfl : k = n := by omega
      have HE := Lib.hid (show wr.ownsRow base 3 1 (.slice A k C) (l.map (Me.place a b)).length ((l.map (Me.place a b)).map (.int .i64)) from by
        have h := HS.out.2
        rw [← HN.out, mx_all, HN.out] at h
        exact h)
      have HG := Lib.hid HS.out.1
      clear HS
      go_wp2
      go_end0
      exact ⟨rfl, HG.out, HE.out⟩
theorem ent_head (args : Array Value) (w : World) : (callFunc 137 args).run Try.prog w = .ok (.enter 137 args) w := enters_of Try.func137 (by kernel_rfl) rfl args w
theorem ent_both (args : Array Value) (w : World) : (callFunc 138 args).run Try.prog w = .ok (.enter 138 args) w := enters_of Try.func138 (by kernel_rfl) rfl args w
theorem head_any (x y b : Int) (B : Nat) (w : World) (hB : w.cell? ⟨B, 0, none⟩ = some (.int .i64 b)) (r : Bool) (hr : decide (x = b) = r) :
    Calls Try.prog 137 #[.agg #[.int .i64 x, .int .i64 y], .pointer (some ⟨B, 0, none⟩)] w fun e w' => e = .returned (.bool r) ∧ Below w.heap.size w w' := by
  have hlt : B < w.heap.size := World.block_lt_of_cell? w _ hB
  have HBl := Lib.hid (bla (Below.refl w.heap.size w) (.cells #[.int .i64 x, .int .i64 y] 52))
  subst hr
  by_cases h : x = b
  · have e : (x == b) = true := by simp [h]
    have e2 : decide (x = b) = true := by simp [h]
    rw [e2]
    clear h e2
    go_enter Try.func137, Try.ntmps137
    go_wp2
    go_ret
    exact ⟨rfl, HBl.out⟩
  · have e : (x == b) = false := by simp [h]
    have e2 : decide (x = b) = false := by simp [h]
    rw [e2]
    clear h e2
    go_enter Try.func137, Try.ntmps137
    go_wp2
    go_ret
    exact ⟨rfl, HBl.out⟩
theorem both_any (v : Value) (l : List Int) (a b : Int) (A1 B1 : Nat) (w : World) (hA : w.cell? ⟨A1, 0, none⟩ = some (.int .i64 a)) (hB : w.cell? ⟨B1, 0, none⟩ = some (.int .i64 b)) (hv : NumsIn w v l) (hm : l.length ≤ 1000) (r : Bool) (hr : (Me.has l a && Me.has l b) = r) :
    Calls Try.prog 138 #[v, .pointer (some ⟨A1, 0, none⟩), .pointer (some ⟨B1, 0, none⟩)] w fun e w' => e = .returned (.bool r) ∧ Below w.heap.size w w' := by
  subst hr
  have HC := Lib.hid fun (x : Int) (r : Bool) (hr : Me.has l x = r) => contains_any v l x r hr w hv hm
  obtain ⟨A, c, rfl, -⟩ := hv.opened
  clear hv
  cases h1 : Me.has l a
  · have H1 := Lib.hid h1
    clear h1
    go_enter Try.func138, Try.ntmps138
    go_wp2_with fail
    refine (HC.out _ _ H1.out).mono ?_
    rintro e w' ⟨rfl, hw⟩
    obtain rfl := hw.symm
    go_wp2
    go_ret
    exact ⟨rfl, Below.refl _ _⟩
  · cases h2 : Me.has l b
    all_goals
      have H1 := Lib.hid h1
      have H2 := Lib.hid h2
      clear h1 h2
      go_enter Try.func138, Try.ntmps138
      go_wp2_with fail
      refine (HC.out _ _ H1.out).mono ?_
      rintro e w' ⟨rfl, hw⟩
      obtain rfl := hw.symm
      go_wp2_with fail
      refine (HC.out _ _ H2.out).mono ?_
      rintro e w' ⟨rfl, hw⟩
      obtain rfl := hw.symm
      go_wp2
      go_ret
      exact ⟨rfl, Below.refl _ _⟩
end Go.Proofs.Ytojnhdkclabkgaa
namespace Go.Proofs.Ytojnhdkclabkgaa
open Go.RowKit
set_option linter.unusedVariables false
set_option linter.unusedSimpArgs false
/-- A list of which the first k elements have been changed. -/
def mxg {α : Type} (f : α → α) (l : List α) (k : Nat) : List α := (l.take k).map f ++ l.drop k
section
variable {α : Type} (f : α → α)
theorem mxg_len (l : List α) (k : Nat) : (mxg f l k).length = l.length := by unfold mxg; simp; omega
theorem mxg_zero (l : List α) : mxg f l 0 = l := by simp [mxg]
theorem mxg_all (l : List α) : mxg f l l.length = l.map f := by simp [mxg]
theorem mxg_at {l : List α} {k : Nat} (d : α) (h : k < l.length) : (mxg f l k).getD k d = l.getD k d := by
  unfold mxg
  rw [List.getD_eq_getElem?_getD, List.getElem?_append_right (by simp; omega)]
  simp [show k - min k l.length = 0 by omega]
theorem mxg_set {l : List α} {k : Nat} (d : α) (h : k < l.length) : (mxg f l k).set k (f (l.getD k d)) = mxg f l (k + 1) := by
  have hl : ((l.take k).map f).length = k := by simp; omega
  unfold mxg
  rw [List.drop_eq_getElem_cons h, List.set_append_right _ _ (by omega), hl, Nat.sub_self, List.set_cons_zero, List.take_add_one, List.getElem?_eq_getElem h, List.map_append]
  simp [List.getD, List.getElem?_eq_getElem h]
end
def hdf (f : Int → Int) (h : Int × Int) : Int × Int := (f h.1, h.2)
/-- All lists of numbers of a graph and its map. -/
def lsL (g : Gr.G) (tos : List (List Int)) : List (List Int) := g.blks.map (fun x => x.next) ++ (g.pts ++ tos)
/-- The first K lists and the first H heads have other numbers. -/
structure Rn (base : Nat) (g : Gr.G) (tos : List (List Int)) (vi va vb vp vh vt : Value) (us : List (Value × Int × Value)) (ps ts : List Value) (f : Int → Int) (K H : Nat) (u : World) : Prop where
  ins : u.ownsRow base 57 3 vi g.ins.length (g.ins.flatMap inCells)
  ars : u.ownsRow base 30 2 va g.ars.length (g.ars.flatMap arCells)
  hds : u.ownsRow base 52 2 vh g.hds.length ((mxg (hdf f) g.hds H).flatMap prCells)
  blk : Hold base u vb g.blks.length us
  cnd : ∀ i, i < g.blks.length → (us.getD i bkz).2.1 = (g.blks.getD i Gr.blk0).cond
  ops : ∀ i, i < g.blks.length → u.ownsRow base 27 5 (us.getD i bkz).1 (g.blks.getD i Gr.blk0).ops.length ((g.blks.getD i Gr.blk0).ops.flatMap opCells)
  oap : ∀ i j, i < g.blks.length → j < g.blks.length → i ≠ j → Ap (us.getD i bkz).1 (us.getD j bkz).1
  prow : u.ownsRow base 32 1 vp g.pts.length ps
  trow : u.ownsRow base 32 1 vt tos.length ts
  pl : ps.length = g.pts.length
  tl : ts.length = tos.length
  fam : Rws base u (nxv us ++ (ps ++ ts)) (mxg (List.map f) (lsL g tos) K)
section
variable {u u' : World} {base : Nat} {g : Gr.G} {tos : List (List Int)} {vi va vb vp vh vt : Value} {us : List (Value × Int × Value)} {ps ts : List Value} {f : Int → Int} {K H : Nat}
theorem Rn.below (h : Rn base g tos vi va vb vp vh vt us ps ts f K H u) (hb : Below u.heap.size u u') : Rn base g tos vi va vb vp vh vt us ps ts f K H u' :=
  ⟨own_below h.ins hb, own_below h.ars hb, own_below h.hds hb, h.blk.below hb, h.cnd, fun i hi => own_below (h.ops i hi) hb, h.oap, own_below h.prow hb, own_below h.trow hb, h.pl, h.tl, h.fam.below hb⟩
theorem Rn.start (h : Gm base g tos vi va vb vp vh vt us ps ts u) : Rn base g tos vi va vb vp vh vt us ps ts f 0 0 u :=
  ⟨h.ins, h.ars, by rw [mxg_zero]; exact h.hds, h.blk, h.cnd, h.ops, h.oap, h.prow, h.trow, h.pl, h.tl, by rw [mxg_zero]; exact h.fam⟩
/-- The graph with other numbers. -/
def rnG (f : Int → Int) (g : Gr.G) : Gr.G := { g with blks := g.blks.map (Me.rnm f), pts := g.pts.map (List.map f), hds := g.hds.map (hdf f) }
theorem Rn.fin (h : Rn base g tos vi va vb vp vh vt us ps ts f (lsL g tos).length g.hds.length u) : Gm base (rnG f g) (tos.map (List.map f)) vi va vb vp vh vt us ps ts u := by
  have hb : ∀ i, i < g.blks.length → ((g.blks.map (Me.rnm f)).getD i Gr.blk0) = Me.rnm f (g.blks.getD i Gr.blk0) := fun i hi => Me.getD_map (d := Gr.blk0) _ hi
  have hl : (g.blks.map (Me.rnm f)).length = g.blks.length := by rw [List.length_map]
  have h1 := h.hds
  have h2 := h.fam
  rw [mxg_all] at h1 h2
  refine ⟨h.ins, h.ars, ?_, ?_, fun i hi => ?_, fun i hi => ?_, fun i j hi hj => ?_, ?_, ?_, ?_, ?_, ?_⟩
  · show u.ownsRow base _ 2 vh (g.hds.map (hdf f)).length _
    rw [List.length_map]; exact h1
  · show Hold base u vb (g.blks.map (Me.rnm f)).length us
    rw [hl]; exact h.blk
  · have hi' : i < g.blks.length := by rw [← hl]; exact hi
    show _ = ((g.blks.map (Me.rnm f)).getD i Gr.blk0).cond
    rw [hb i hi']; exact h.cnd i hi'
  · have hi' : i < g.blks.length := by rw [← hl]; exact hi
    show u.ownsRow base _ 5 _ ((g.blks.map (Me.rnm f)).getD i Gr.blk0).ops.length (((g.blks.map (Me.rnm f)).getD i Gr.blk0).ops.flatMap opCells)
    rw [hb i hi']; exact h.ops i hi'
  · exact h.oap i j (by rw [← hl]; exact hi) (by rw [← hl]; exact hj)
  · show u.ownsRow base _ 1 vp (g.pts.map (List.map f)).length ps
    rw [List.length_map]; exact h.prow
  · rw [List.length_map]; exact h.trow
  · show _ = (g.pts.map (List.map f)).length
    rw [List.length_map]; exact h.pl
  · rw [List.length_map]; exact h.tl
  · show Rws base u (nxv us ++ (ps ++ ts)) ((g.blks.map (Me.rnm f)).map (fun x => x.next) ++ (g.pts.map (List.map f) ++ tos.map (List.map f)))
    have e : (g.blks.map (Me.rnm f)).map (fun x => x.next) ++ (g.pts.map (List.map f) ++ tos.map (List.map f)) = (lsL g tos).map (List.map f) := by
      unfold lsL
      rw [List.map_append, List.map_append, List.map_map, List.map_map]
      rfl
    rw [e]; exact h2
theorem Rn.flen (h : Rn base g tos vi va vb vp vh vt us ps ts f K H u) : (lsL g tos).length = g.blks.length + (g.pts.length + tos.length) := by unfold lsL; simp
/-- Row K has other numbers now. -/
theorem Rn.move (h : Rn base g tos vi va vb vp vh vt us ps ts f K H u) (hK : K < (lsL g tos).length) {v : Value} (hv : (nxv us ++ (ps ++ ts)).getD K nl = v) (hg : u.grownBy u' v.ownBlock)
    (hown : u'.ownsRow base 3 1 v (((lsL g tos).getD K []).map f).length ((((lsL g tos).getD K []).map f).map (.int .i64))) : Rn base g tos vi va vb vp vh vt us ps ts f (K + 1) H u' := by
  subst hv
  have hl : K < (mxg (List.map f) (lsL g tos) K).length := by rw [mxg_len]; exact hK
  have hr := h.fam.row K hl
  have hf := h.fam.change hl hg hown (.inl rfl)
  have e1 : (nxv us ++ (ps ++ ts)).set K ((nxv us ++ (ps ++ ts)).getD K nl) = nxv us ++ (ps ++ ts) := by
    have hlt : K < (nxv us ++ (ps ++ ts)).length := by rw [h.fam.len]; exact hl
    rw [Me.getD_eq hlt]
    exact List.set_getElem_self hlt
  rw [e1, mxg_set (List.map f) [] hK] at hf
  exact ⟨own_grown_t h.ins hr (by decide) hg, own_grown_t h.ars hr (by decide) hg, own_grown_t h.hds hr (by decide) hg, h.blk.grown hr (by decide) hg, h.cnd, fun i hi => own_grown_t (h.ops i hi) hr (by decide) hg, h.oap, own_grown_t h.prow hr (by decide) hg, own_grown_t h.trow hr (by decide) hg, h.pl, h.tl, hf⟩
theorem Rn.rowK (h : Rn base g tos vi va vb vp vh vt us ps ts f K H u) (hK : K < (lsL g tos).length) : u.ownsRow base 3 1 ((nxv us ++ (ps ++ ts)).getD K nl) ((lsL g tos).getD K []).length (((lsL g tos).getD K []).map (.int .i64)) := by
  have hr := h.fam.row K (by rw [mxg_len]; exact hK)
  rwa [mxg_at (List.map f) [] hK] at hr
theorem Rn.one (h : Rn base g tos vi va vb vp vh vt us ps ts f K H u) : (∀ x ∈ ps, x.oneCell' = true) ∧ ∀ x ∈ ts, x.oneCell' = true := by
  have hl := h.flen
  have hu : (nxv us).length = g.blks.length := by rw [nxv_len]; exact h.blk.1
  have hall : ∀ i, i < g.pts.length + tos.length → ((ps ++ ts).getD i nl).oneCell' = true := fun i hi => by
    have hr := h.fam.row (g.blks.length + i) (by rw [mxg_len, hl]; omega)
    rw [ap_right hu] at hr
    rw [own_sl hr]
    rfl
  have hp := h.pl
  have ht := h.tl
  refine ⟨fun x hx => ?_, fun x hx => ?_⟩
  · obtain ⟨i, hi, rfl⟩ := Me.mem_get (d := nl) hx
    have := hall i (by omega)
    rwa [ap_left hi] at this
  · obtain ⟨i, hi, rfl⟩ := Me.mem_get (d := nl) hx
    have := hall (g.pts.length + i) (by omega)
    rwa [ap_right hp] at this
theorem own_pos {u : World} {base : Nat} {e : TypeId} {sz n c m : Nat} {A : Option Addr} {xs : List Value} (h : u.ownsRow base e sz (.slice A n c) m xs) (hm : 0 < m) : ∃ q, A = some ⟨q, 0, none⟩ := by
  rcases h.2 with ⟨_, h0⟩ | ⟨g, cap, cur, e0, _⟩
  · omega
  · injection e0 with e0 _ _
    exact ⟨g, e0⟩
/-- A number of a row of pairs changes. -/
theorem prs_set {base g i : Nat} {e : TypeId} {n c : Nat} {l : List (Int × Int)} {u : World} (h : u.ownsRow base e 2 (.slice (some ⟨g, 0, none⟩) n c) n (l.flatMap prCells)) (hi : i < l.length) (z : Int) : (u.setCell ⟨g, i * 2, none⟩ (.int .i64 z)).ownsRow base e 2 (.slice (some ⟨g, 0, none⟩) n c) n ((l.set i (z, (l.getD i (0, 0)).2)).flatMap prCells) := by
  have hf : ∀ (l : List (Int × Int)) (i : Nat), i < l.length → (l.set i (z, (l.getD i (0, 0)).2)).flatMap prCells = (l.flatMap prCells).set (i * 2) (.int .i64 z) := by
    intro l
    induction l with
    | nil => intro i hi; simp at hi
    | cons x l ih =>
      intro i hi
      cases i with
      | zero => simp [prCells]
      | succ i =>
        have := ih i (by simpa using hi)
        rw [List.set_cons_succ, List.flatMap_cons, List.flatMap_cons, List.getD_cons_succ, this, show (i + 1) * 2 = (prCells x).length + i * 2 by simp [prCells]; omega, List.set_append_right _ _ (by omega)]
        simp
  rw [hf l i hi]
  rcases h.2 with ⟨e0, _⟩ | ⟨g', cap, cur, e0, h1, h2, h3, h4, h5, h6⟩
  · cases e0
  · injection e0 with e1 e2 e3
    injection e1 with e1
    injection e1 with e1 _ _
    subst e1 e3
    refine ⟨by rw [List.length_set]; exact h.1, .inr ⟨g, c, cur.setIfInBounds (i * 2) (.int .i64 z), rfl, h1, ?_, h3, h4, by simpa using h5, ?_⟩⟩
    · simp [World.setCell, Array.getElem?_modify, h2]
    · rw [Array.toList_setIfInBounds, List.take_set, h6]
theorem prs_at {base g i : Nat} {e : TypeId} {n c : Nat} {l : List (Int × Int)} {u : World} (h : u.ownsRow base e 2 (.slice (some ⟨g, 0, none⟩) n c) n (l.flatMap prCells)) (hi : i < l.length) : u.cell? ⟨g, i * 2, none⟩ = some (.int .i64 (l.getD i (0, 0)).1) ∧ u.cell? ⟨g, i * 2 + 1, none⟩ = some (.int .i64 (l.getD i (0, 0)).2) ∧ u.frozen? ⟨g, i * 2, none⟩ = false ∧ base ≤ g ∧ g < u.heap.size := by
  have hx : l[i]? = some (l.getD i (0, 0)) := getD_some _ hi
  have hc : ∀ k v, (prCells (l.getD i (0, 0)))[k]? = some v → u.cell? ⟨g, i * 2 + k, none⟩ = some v := fun k v hv => by
    have := h.cells (g := g) rfl _ _ (flat_cell prCells 2 (fun _ => rfl) l i k _ _ hx hv)
    rwa [Addr.add_lit, Nat.zero_add] at this
  rcases h.2 with ⟨e0, _⟩ | ⟨g', cap, cur, e0, h1, h2, h3, h4, h5, h6⟩
  · cases e0
  · injection e0 with e1 e2 e3
    injection e1 with e1
    injection e1 with e1 _ _
    subst e1
    exact ⟨hc 0 _ rfl, hc 1 _ rfl, by simp [World.frozen?, h2], h1, (h.lt g rfl).2⟩
/-- Head H has another number now. -/
theorem Rn.head {Q n c : Nat} (h : Rn base g tos vi va vb vp (.slice (some ⟨Q, 0, none⟩) n c) vt us ps ts f K H u) (hH : H < g.hds.length) (hn : n = g.hds.length) : Rn base g tos vi va vb vp (.slice (some ⟨Q, 0, none⟩) n c) vt us ps ts f K (H + 1) (u.setCell ⟨Q, H * 2, none⟩ (.int .i64 (f (g.hds.getD H (0, 0)).1))) := by
  subst hn
  have hr := h.hds
  have h1 := prs_set hr (i := H) (by rw [mxg_len]; exact hH) (f (g.hds.getD H (0, 0)).1)
  have e : (mxg (hdf f) g.hds H).set H (f (g.hds.getD H (0, 0)).1, ((mxg (hdf f) g.hds H).getD H (0, 0)).2) = mxg (hdf f) g.hds (H + 1) := by
    rw [mxg_at (hdf f) (0, 0) hH, ← mxg_set (hdf f) (0, 0) hH]
    rfl
  rw [e] at h1
  have hg := grown_cell u Q (H * 2) (.int .i64 (f (g.hds.getD H (0, 0)).1))
  exact ⟨own_grown_t h.ins hr (by decide) hg, own_grown_t h.ars hr (by decide) hg, h1, h.blk.grown hr (by decide) hg, h.cnd, fun i hi => own_grown_t (h.ops i hi) hr (by decide) hg, h.oap, own_grown_t h.prow hr (by decide) hg, own_grown_t h.trow hr (by decide) hg, h.pl, h.tl, h.fam.other hr (by decide) hg⟩
end
end Go.Proofs.Ytojnhdkclabkgaa
