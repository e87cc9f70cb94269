/- The law InstrMade: it answers true. No condition. -/
import Derived.Test.YthcjohfngnffpaaInAg
import Derived.Test.YthcjohfngnffpaaInOf
import Derived.LoopTactic
import Derived.Deep.DeepCutAuto
import Derived.Deep.CutBlock
import Derived.Deep.RegionHeld3
namespace Go.Proofs.Ythcjohfngnffpaa
open Go.RowKit
set_option linter.unusedVariables false
set_option linter.unusedSimpArgs false
attribute [local go_sem] y_undef
theorem in_append_row {P : Program} {w : World} {ops : Array Oper} {o : Oper} {a : Act} {K : Act → World → Prop} {Q : Exit → Act → World → Prop} {E : Prop} (hgd : o.guard = none) (s x : Operand) (t : TypeId)
    (ho : o.op = .call { callee := .builtin .append, args := #[s, x], argTypes := #[t, t] })
    (base : Nat) (e : TypeId) (i : TypeInfo) (z : Value) (size bytes : Nat) (ht : P.underlying t = some (.slice e)) (hi : P.info? e = some i) (hz : i.zero = some z)
    (hsize : i.size = size) (hby : i.bytes = bytes) (hzs : z.cells.size = size) (hsz : 0 < size)
    (v : Value) (n : Nat) (xs : List Value) (hs : a.eval s = v) (hown : w.ownsRow base e size v n xs)
    (vx : Value) (m : Nat) (news : List Value) (hx : a.eval x = vx) (hr : RowIn size w vx m news) (h1 : ∀ u ∈ news, u.oneCell' = true)
    (h63 : n + m ≤ maxLen) (hbytes : (n + m) * bytes ≤ 140737488355328) (hbase : base ≤ w.heap.size)
    (h : ∀ v' w', w'.ownsRow base e size v' (n + m) (xs ++ news) → w.grownBy w' v.ownBlock → (v'.ownBlock = v.ownBlock ∨ v'.ownBlock = some w.heap.size) → K (a.put o.dst v') w') :
    if Region.wanted o (yielded ops a.tmps) = true then Oper.wp P o a w K Q else E := by
  have hw : Region.wanted o (yielded ops a.tmps) = true := by simp [Region.wanted, hgd]
  rw [if_pos hw]
  have hrun : ∃ v' w', (Builtin.append_ #[t, t] o.type #[v, vx]).run P w = .ok v' w' ∧ w'.ownsRow base e size v' (n + m) (xs ++ news) ∧ w.grownBy w' v.ownBlock ∧ (v'.ownBlock = v.ownBlock ∨ v'.ownBlock = some w.heap.size) := by
    obtain ⟨A, c, rfl, hl, hcs⟩ := hr
    cases A with
    | none =>
      have h0 : m = 0 := by
        rcases hcs with h | ⟨b, off, e, _⟩
        · exact h
        · exact absurd e (by simp)
      subst h0
      have hn : news = [] := List.eq_nil_of_length_eq_zero (by rw [hl, Nat.zero_mul])
      subst hn
      exact ⟨v, w, run_append_none_c (P := P) (w := w) base t o.type e i size c ht hi v n xs hown, by simpa using hown, World.grownBy.refl w _, .inl rfl⟩
    | some ad =>
      obtain ⟨v', w', h2, h3, h4, h5, h6⟩ := run_append_own_at (P := P) (w := w) base t o.type e i z size bytes ht hi hz hsize hby hzs hsz v n xs hown ad m c news hl (fun j u hj => by
        rcases hcs with h0 | ⟨b, off, e, hlt, hc⟩
        · subst h0
          have hn : news = [] := List.eq_nil_of_length_eq_zero (by rw [hl, Nat.zero_mul])
          subst hn
          simp at hj
        · injection e with e
          subst e
          have := hc j u hj
          rw [show (⟨b, off, none⟩ : Addr).add j = ⟨b, off + j, none⟩ from by unfold Addr.add; split <;> simp_all]
          exact this) h1 h63 hbytes hbase
      exact ⟨v', w', h2, h3, h4, h6⟩
  obtain ⟨v', w', hrun, h2, h3, h4⟩ := hrun
  unfold Oper.wp
  simp [execOp, ho, resolve, invoke, builtin, hs, hx, hrun, Result.andThen]
  exact h _ _ h2 h3 h4
theorem tmod_mod (z n : Int) : (z.tmod n + n) % n = z % n := by
  have h := Int.mul_tdiv_add_tmod z n
  rw [Int.add_emod_right]
  conv => rhs; rw [← h]
  rw [Int.add_comm, Int.add_mul_emod_self_left]
theorem tmod_lo (z n : Int) (h : 0 < n) : -n < z.tmod n := by
  have h1 : (-z).tmod n < n := Int.tmod_lt_of_pos (-z) h
  rw [Int.neg_tmod] at h1
  omega
theorem g_int {k : IntKind} {a b : Int} (h : a = b) : Ending.returned (.int k a) = .returned (.int k b) := by rw [h]
theorem gmod_any (z n : Int) (hz : -9223372036854775808 ≤ z ∧ z ≤ 9223372036854775807) (hn : 1 ≤ n ∧ n ≤ 1000000) (w : World) :
    Calls Try.prog 8 #[.int .i64 z, .int .i64 n] w fun e w' => e = .returned (.int .i64 (z % n)) ∧ w = w' := by
  obtain ⟨h1, h2⟩ := hz
  obtain ⟨h3, h4⟩ := hn
  have hne : ¬ n = 0 := by omega
  have a1 : -n < z.tmod n := tmod_lo z n (by omega)
  have a2 : z.tmod n < n := Int.tmod_lt_of_pos z (by omega)
  go_enter Try.func8, Try.ntmps8
  go_wp2
  go_ret
  exact ⟨g_int (tmod_mod z n), rfl⟩
theorem mem_get {l : List Int} {i : Nat} (hi : i < l.length) : l.getD i 0 ∈ l := by
  rw [List.getD_eq_getElem?_getD, List.getElem?_eq_getElem hi]; exact List.getElem_mem hi
theorem enb_len (L : List In.I) : (In.enb L).length ≤ 8 * L.length := by
  unfold In.enb
  split
  · rw [In.flat_len]; omega
  · simp
theorem u8_wrap (n : Int) : IntKind.u8.wrap n = n % 256 := by simp [IntKind.wrap, IntKind.bits, IntKind.signed]
theorem xor_in (x y : Int) : 0 ≤ bits BinOp.xor IntKind.u8 x y ∧ bits BinOp.xor IntKind.u8 x y ≤ 255 := by
  have : ∃ n, bits BinOp.xor IntKind.u8 x y = IntKind.u8.wrap n := ⟨_, rfl⟩
  obtain ⟨n, hn⟩ := this
  rw [hn, u8_wrap]
  omega
theorem ints_open {k : IntKind} {w : World} {v : Value} {zs : List Int} (h : IntsIn k w v zs) : ∃ (A : Option Addr) (c : Nat), v = .slice A zs.length c ∧ ∀ i, i < zs.length → ∃ b off, A = some ⟨b, off, none⟩ ∧ b < w.heap.size ∧ w.cell? ⟨b, off + i, none⟩ = some (.int k (zs.getD i 0)) := by
  rcases h with ⟨rfl, A, c, rfl⟩ | ⟨b, off, c, h0, rfl, hlt, hc⟩
  · exact ⟨A, c, rfl, fun i hi => absurd hi (Nat.not_lt_zero _)⟩
  · exact ⟨_, c, rfl, fun i hi => ⟨b, off, rfl, hlt, hc i hi⟩⟩
theorem own_set1 {u : World} {base g i : Nat} {e : TypeId} {n cap : Nat} {l : List Int} {z : Int} (h : u.ownsRow base e 1 (.slice (some ⟨g, 0, none⟩) n cap) n (l.map (Value.int .u8))) (hi : i < n) : (u.setCell ⟨g, i, none⟩ (.int .u8 z)).ownsRow base e 1 (.slice (some ⟨g, 0, none⟩) n cap) n ((l.set i z).map (Value.int .u8)) := by
  rw [List.map_set]
  exact own_set h hi
theorem own_frozen {u : World} {base g : Nat} {e : TypeId} {sz n cap : Nat} {xs : List Value} (h : u.ownsRow base e sz (.slice (some ⟨g, 0, none⟩) n cap) n xs) (i : Nat) : u.frozen? ⟨g, i, none⟩ = false := by
  rcases h.2 with ⟨h0, _⟩ | ⟨g', cap', cur, hs, hb, hg, _⟩
  · injection h0 with h0; exact absurd h0 (by simp)
  · injection hs with h1 _ _
    injection h1 with h1
    injection h1 with h1 _ _
    subst h1
    simp [World.frozen?, hg]
theorem set_bel {w u : World} {g : Nat} (h : Below w.heap.size w u) (hg : w.heap.size ≤ g) (j : Nat) (v : Value) : Below w.heap.size w (u.setCell ⟨g, j, none⟩ v) := h.setCell (p := ⟨g, j, none⟩) hg v
set_option maxRecDepth 100000 in
set_option maxHeartbeats 40000000 in
theorem made_law (zk za zb zc zn : List Int) (vk va vb vc vn : Value) (at_ by_ : Int) (w : World) (hk : IntsIn .u8 w vk zk) (ha : IntsIn .u8 w va za) (hb : IntsIn .u8 w vb zb) (hc : IntsIn .u8 w vc zc) (hn : IntsIn .i32 w vn zn)
    (rk : ∀ z ∈ zk, 0 ≤ z ∧ z ≤ 255) (ra : ∀ z ∈ za, 0 ≤ z ∧ z ≤ 255) (rb : ∀ z ∈ zb, 0 ≤ z ∧ z ≤ 255) (rc : ∀ z ∈ zc, 0 ≤ z ∧ z ≤ 255) (rn : ∀ z ∈ zn, -2147483648 ≤ z ∧ z ≤ 2147483647) (lk : zk.length ≤ maxLen) (la : za.length ≤ maxLen) (lb : zb.length ≤ maxLen) (lc : zc.length ≤ maxLen) (ln : zn.length ≤ maxLen)
    (hat : -9223372036854775808 ≤ at_ ∧ at_ ≤ 9223372036854775807) (hby : 0 ≤ by_ ∧ by_ ≤ 255) :
    Calls Try.prog 3 #[vk, va, vb, vc, vn, .int .i64 at_, .int .u8 by_] w fun e w' => e = .returned (.bool true) ∧ Below w.heap.size w w' := by
  obtain ⟨A0, C0, rfl, ho⟩ := ints_open hk
  have HO0 := Lib.hid ho
  have HR0 := Lib.hid rk
  obtain ⟨n0, hn0⟩ : ∃ n, zk.length = n := ⟨_, rfl⟩
  rw [hn0] at HO0 lk ⊢
  have HN0 := Lib.hid hn0
  unfold maxLen at lk
  clear ho hk rk hn0
  obtain ⟨A1, C1, rfl, ho⟩ := ints_open ha
  have HO1 := Lib.hid ho
  have HR1 := Lib.hid ra
  obtain ⟨n1, hn1⟩ : ∃ n, za.length = n := ⟨_, rfl⟩
  rw [hn1] at HO1 la ⊢
  have HN1 := Lib.hid hn1
  unfold maxLen at la
  clear ho ha ra hn1
  obtain ⟨A2, C2, rfl, ho⟩ := ints_open hb
  have HO2 := Lib.hid ho
  have HR2 := Lib.hid rb
  obtain ⟨n2, hn2⟩ : ∃ n, zb.length = n := ⟨_, rfl⟩
  rw [hn2] at HO2 lb ⊢
  have HN2 := Lib.hid hn2
  unfold maxLen at lb
  clear ho hb rb hn2
  obtain ⟨A3, C3, rfl, ho⟩ := ints_open hc
  have HO3 := Lib.hid ho
  have HR3 := Lib.hid rc
  obtain ⟨n3, hn3⟩ : ∃ n, zc.length = n := ⟨_, rfl⟩
  rw [hn3] at HO3 lc ⊢
  have HN3 := Lib.hid hn3
  unfold maxLen at lc
  clear ho hc rc hn3
  obtain ⟨A4, C4, rfl, ho⟩ := ints_open hn
  have HO4 := Lib.hid ho
  have HR4 := Lib.hid rn
  obtain ⟨n4, hn4⟩ : ∃ n, zn.length = n := ⟨_, rfl⟩
  rw [hn4] at HO4 ln ⊢
  have HN4 := Lib.hid hn4
  unfold maxLen at ln
  clear ho hn rn hn4
  obtain ⟨iT, hi0, hz0, hz1, hz2⟩ := info_parts minfo_in
  have HIT := Lib.hid (And.intro hi0 (And.intro hz0 (And.intro hz1 hz2)))
  clear hi0 hz0 hz1 hz2
  have HAt := Lib.hid hat
  have HBy := Lib.hid hby
  clear hat hby
  go_enter Try.func3, Try.ntmps3
  go_upto_block 0 with fail
  go_cut [15, 16] from 19 to 78 (fun y i wc => ∃ (L : List In.I) (A : Option Addr) (m C : Nat) (z : Int), y = .slice A m C ∧ i = .int .i64 z ∧ L.length = m ∧ m ≤ 30 ∧ Hid (Below w.heap.size w wc ∧ wc.ownsRow w.heap.size 26 6 (.slice A m C) m (L.flatMap iCells)))
  case first =>
    go_wp2
    go_loopw [15, 16] (fun v i wr => ∃ (k : Nat) (y : Value) (L : List In.I), k ≤ 30 ∧ L.length = k ∧ i = .int .i64 (k : Nat) ∧ y = v ∧ Hid (Below w.heap.size w wr ∧ wr.ownsRow w.heap.size 26 6 y k (L.flatMap iCells))) (fun _ i _ => 30 - (intOf i).toNat)
    case atStart => exact ⟨0, _, [], by omega, rfl, rfl, rfl, Lib.hid ⟨Below.refl _ _, World.ownsRow_nil _ _ _ _⟩⟩
    case round =>
      obtain ⟨k, y, L, hk30, hLk, rfl, rfl, HS⟩ := hrel
      have HLn := Lib.hid hLk
      clear hLk
      by_cases t0 : (k : Int) < n0
      · skip
        by_cases t1 : (k : Int) < n1
        · skip
          by_cases t2 : (k : Int) < n2
          · skip
            by_cases t3 : (k : Int) < n3
            · skip
              by_cases t4 : (k : Int) < n4
              · skip
                by_cases t5 : (k : Int) < 30
                · skip
                  obtain ⟨b0, o0, rfl, lt0, x0⟩ := HO0.out k (by omega)
                  obtain ⟨b1, o1, rfl, lt1, x1⟩ := HO1.out k (by omega)
                  obtain ⟨b2, o2, rfl, lt2, x2⟩ := HO2.out k (by omega)
                  obtain ⟨b3, o3, rfl, lt3, x3⟩ := HO3.out k (by omega)
                  obtain ⟨b4, o4, rfl, lt4, x4⟩ := HO4.out k (by omega)
                  have r0 := HR0.out (zk.getD k 0) (mem_get (by rw [HN0.out]; omega))
                  have r1 := HR1.out (za.getD k 0) (mem_get (by rw [HN1.out]; omega))
                  have r2 := HR2.out (zb.getD k 0) (mem_get (by rw [HN2.out]; omega))
                  have r3 := HR3.out (zc.getD k 0) (mem_get (by rw [HN3.out]; omega))
                  have r4 := HR4.out (zn.getD k 0) (mem_get (by rw [HN4.out]; omega))
                  generalize zk.getD k 0 = z0 at *
                  generalize za.getD k 0 = z1 at *
                  generalize zb.getD k 0 = z2 at *
                  generalize zc.getD k 0 = z3 at *
                  generalize zn.getD k 0 = z4 at *
                  obtain ⟨i, hi⟩ : ∃ i, In.of z0 z1 z2 z3 z4 = i := ⟨_, rfl⟩
                  have HOf := Lib.hid (of_any z0 z1 z2 z3 z4 r0 r1 r2 r3 r4 i hi)
                  clear hi r0 r1 r2 r3 r4
                  obtain ⟨ik, ia, ib, ic, io, im⟩ := i
                  unfold iAgg at HOf
                  simp only at HOf
                  go_wp2_with fail
                  refine wp_region_held_drew (S := (fun u : World => Below w.heap.size w u)) (by kernel_rfl) (HS.out.1.trans (below_drewN _ _ 1)) (fun hHeld => ?_)
                  obtain ⟨u0a, hu0⟩ : ∃ u, wr.drew = u := ⟨_, rfl⟩
                  rw [hu0] at hHeld ⊢
                  have hb0 : Below wr.heap.size wr u0a := by rw [← hu0]; exact below_drewN _ _ 1
                  clear hu0
                  have HR := Lib.hid (own_below HS.out.2 hb0)
                  obtain ⟨A, D, hz⟩ := own_eta HR.out
                  subst hz
                  clear HS
                  refine' wpAnyH_take (i := 0) (v := _) ?_ ?_ ?_ ?_ ?_ ?_ ?_ ?_
                  rotate_left 2
                  focus (simp only [List.getElem?_toArray, List.getElem?_cons_succ, List.getElem?_cons_zero]; rfl)
                  focus kernel_rfl
                  focus kernel_rfl
                  focus kernel_rfl
                  focus exact (fun _ _ _ h => h)
                  refine Or.inl ⟨?_, ?_⟩
                  focus (go_simp; done)
                  focus (intro wS hSw; (first | (go_simp; done) | (go_simp; with_reducible rfl)))
                  focus assumption
                  (try simp only [Act.put, List.setIfInBounds_toArray, List.set_cons_zero, List.set_cons_succ])
                  refine' wpAnyH_take (i := 1) (v := _) ?_ ?_ ?_ ?_ ?_ ?_ ?_ ?_
                  rotate_left 2
                  focus (simp only [List.getElem?_toArray, List.getElem?_cons_succ, List.getElem?_cons_zero]; rfl)
                  focus kernel_rfl
                  focus kernel_rfl
                  focus kernel_rfl
                  focus exact (fun _ _ _ h => h)
                  refine Or.inl ⟨?_, ?_⟩
                  focus (go_simp; done)
                  focus (intro wS hSw; (first | (go_simp; done) | (go_simp; with_reducible rfl)))
                  focus assumption
                  (try simp only [Act.put, List.setIfInBounds_toArray, List.set_cons_zero, List.set_cons_succ])
                  refine' wpAnyH_take (i := 2) (v := _) ?_ ?_ ?_ ?_ ?_ ?_ ?_ ?_
                  rotate_left 2
                  focus (simp only [List.getElem?_toArray, List.getElem?_cons_succ, List.getElem?_cons_zero]; rfl)
                  focus kernel_rfl
                  focus kernel_rfl
                  focus kernel_rfl
                  focus exact (fun _ _ _ h => h)
                  refine Or.inl ⟨?_, ?_⟩
                  focus (go_simp; done)
                  focus (intro wS hSw; (first | (go_simp; done) | (go_simp; with_reducible rfl)))
                  focus assumption
                  (try simp only [Act.put, List.setIfInBounds_toArray, List.set_cons_zero, List.set_cons_succ])
                  refine' wpAnyH_take (i := 3) (v := _) ?_ ?_ ?_ ?_ ?_ ?_ ?_ ?_
                  rotate_left 2
                  focus (simp only [List.getElem?_toArray, List.getElem?_cons_succ, List.getElem?_cons_zero]; rfl)
                  focus kernel_rfl
                  focus kernel_rfl
                  focus kernel_rfl
                  focus exact (fun _ _ _ h => h)
                  refine Or.inl ⟨?_, ?_⟩
                  focus (go_simp; done)
                  focus (intro wS hSw; (first | (go_simp; done) | (go_simp; with_reducible rfl)))
                  focus assumption
                  (try simp only [Act.put, List.setIfInBounds_toArray, List.set_cons_zero, List.set_cons_succ])
                  refine' wpAnyH_take (i := 4) (v := _) ?_ ?_ ?_ ?_ ?_ ?_ ?_ ?_
                  rotate_left 2
                  focus (simp only [List.getElem?_toArray, List.getElem?_cons_succ, List.getElem?_cons_zero]; rfl)
                  focus kernel_rfl
                  focus kernel_rfl
                  focus kernel_rfl
                  focus exact (fun _ _ _ h => h)
                  refine Or.inl ⟨?_, ?_⟩
                  focus (go_simp; done)
                  focus (intro wS hSw; have c0 := (hSw.cell (p := ⟨b0, o0 + k, none⟩) lt0).trans x0; have c1 := (hSw.cell (p := ⟨b1, o1 + k, none⟩) lt1).trans x1; have c2 := (hSw.cell (p := ⟨b2, o2 + k, none⟩) lt2).trans x2; have c3 := (hSw.cell (p := ⟨b3, o3 + k, none⟩) lt3).trans x3; have c4 := (hSw.cell (p := ⟨b4, o4 + k, none⟩) lt4).trans x4; (first | (go_simp; done) | (go_simp; with_reducible rfl)))
                  focus assumption
                  (try simp only [Act.put, List.setIfInBounds_toArray, List.set_cons_zero, List.set_cons_succ])
                  refine' wpAnyH_take (i := 5) (v := _) ?_ ?_ ?_ ?_ ?_ ?_ ?_ ?_
                  rotate_left 2
                  focus (simp only [List.getElem?_toArray, List.getElem?_cons_succ, List.getElem?_cons_zero]; rfl)
                  focus kernel_rfl
                  focus kernel_rfl
                  focus kernel_rfl
                  focus exact (fun _ _ _ h => h)
                  refine Or.inl ⟨?_, ?_⟩
                  focus (go_simp; done)
                  focus (intro wS hSw; (first | (go_simp; done) | (go_simp; with_reducible rfl)))
                  focus assumption
                  (try simp only [Act.put, List.setIfInBounds_toArray, List.set_cons_zero, List.set_cons_succ])
                  refine' wpAnyH_take (i := 6) (v := _) ?_ ?_ ?_ ?_ ?_ ?_ ?_ ?_
                  rotate_left 2
                  focus (simp only [List.getElem?_toArray, List.getElem?_cons_succ, List.getElem?_cons_zero]; rfl)
                  focus kernel_rfl
                  focus kernel_rfl
                  focus kernel_rfl
                  focus exact (fun _ _ _ h => h)
                  refine Or.inl ⟨?_, ?_⟩
                  focus (go_simp; done)
                  focus (intro wS hSw; (first | (go_simp; done) | (go_simp; with_reducible rfl)))
                  focus assumption
                  (try simp only [Act.put, List.setIfInBounds_toArray, List.set_cons_zero, List.set_cons_succ])
                  refine' wpAnyH_take (i := 7) (v := _) ?_ ?_ ?_ ?_ ?_ ?_ ?_ ?_
                  rotate_left 2
                  focus (simp only [List.getElem?_toArray, List.getElem?_cons_succ, List.getElem?_cons_zero]; rfl)
                  focus kernel_rfl
                  focus kernel_rfl
                  focus kernel_rfl
                  focus exact (fun _ _ _ h => h)
                  refine Or.inl ⟨?_, ?_⟩
                  focus (go_simp; done)
                  focus (intro wS hSw; (first | (go_simp; done) | (go_simp; with_reducible rfl)))
                  focus assumption
                  (try simp only [Act.put, List.setIfInBounds_toArray, List.set_cons_zero, List.set_cons_succ])
                  refine' wpAnyH_take (i := 8) (v := _) ?_ ?_ ?_ ?_ ?_ ?_ ?_ ?_
                  rotate_left 2
                  focus (simp only [List.getElem?_toArray, List.getElem?_cons_succ, List.getElem?_cons_zero]; rfl)
                  focus kernel_rfl
                  focus kernel_rfl
                  focus kernel_rfl
                  focus exact (fun _ _ _ h => h)
                  refine Or.inl ⟨?_, ?_⟩
                  focus (go_simp; done)
                  focus (intro wS hSw; have c0 := (hSw.cell (p := ⟨b0, o0 + k, none⟩) lt0).trans x0; have c1 := (hSw.cell (p := ⟨b1, o1 + k, none⟩) lt1).trans x1; have c2 := (hSw.cell (p := ⟨b2, o2 + k, none⟩) lt2).trans x2; have c3 := (hSw.cell (p := ⟨b3, o3 + k, none⟩) lt3).trans x3; have c4 := (hSw.cell (p := ⟨b4, o4 + k, none⟩) lt4).trans x4; (first | (go_simp; done) | (go_simp; with_reducible rfl)))
                  focus assumption
                  (try simp only [Act.put, List.setIfInBounds_toArray, List.set_cons_zero, List.set_cons_succ])
                  refine' wpAnyH_take (i := 9) (v := _) ?_ ?_ ?_ ?_ ?_ ?_ ?_ ?_
                  rotate_left 2
                  focus (simp only [List.getElem?_toArray, List.getElem?_cons_succ, List.getElem?_cons_zero]; rfl)
                  focus kernel_rfl
                  focus kernel_rfl
                  focus kernel_rfl
                  focus exact (fun _ _ _ h => h)
                  refine Or.inl ⟨?_, ?_⟩
                  focus (go_simp; done)
                  focus (intro wS hSw; (first | (go_simp; done) | (go_simp; with_reducible rfl)))
                  focus assumption
                  (try simp only [Act.put, List.setIfInBounds_toArray, List.set_cons_zero, List.set_cons_succ])
                  refine' wpAnyH_take (i := 10) (v := _) ?_ ?_ ?_ ?_ ?_ ?_ ?_ ?_
                  rotate_left 2
                  focus (simp only [List.getElem?_toArray, List.getElem?_cons_succ, List.getElem?_cons_zero]; rfl)
                  focus kernel_rfl
                  focus kernel_rfl
                  focus kernel_rfl
                  focus exact (fun _ _ _ h => h)
                  refine Or.inl ⟨?_, ?_⟩
                  focus (go_simp; done)
                  focus (intro wS hSw; (first | (go_simp; done) | (go_simp; with_reducible rfl)))
                  focus assumption
                  (try simp only [Act.put, List.setIfInBounds_toArray, List.set_cons_zero, List.set_cons_succ])
                  refine' wpAnyH_take (i := 11) (v := _) ?_ ?_ ?_ ?_ ?_ ?_ ?_ ?_
                  rotate_left 2
                  focus (simp only [List.getElem?_toArray, List.getElem?_cons_succ, List.getElem?_cons_zero]; rfl)
                  focus kernel_rfl
                  focus kernel_rfl
                  focus kernel_rfl
                  focus exact (fun _ _ _ h => h)
                  refine Or.inl ⟨?_, ?_⟩
                  focus (go_simp; done)
                  focus (intro wS hSw; (first | (go_simp; done) | (go_simp; with_reducible rfl)))
                  focus assumption
                  (try simp only [Act.put, List.setIfInBounds_toArray, List.set_cons_zero, List.set_cons_succ])
                  refine' wpAnyH_take (i := 12) (v := _) ?_ ?_ ?_ ?_ ?_ ?_ ?_ ?_
                  rotate_left 2
                  focus (simp only [List.getElem?_toArray, List.getElem?_cons_succ, List.getElem?_cons_zero]; rfl)
                  focus kernel_rfl
                  focus kernel_rfl
                  focus kernel_rfl
                  focus exact (fun _ _ _ h => h)
                  refine Or.inl ⟨?_, ?_⟩
                  focus (go_simp; done)
                  focus (intro wS hSw; have c0 := (hSw.cell (p := ⟨b0, o0 + k, none⟩) lt0).trans x0; have c1 := (hSw.cell (p := ⟨b1, o1 + k, none⟩) lt1).trans x1; have c2 := (hSw.cell (p := ⟨b2, o2 + k, none⟩) lt2).trans x2; have c3 := (hSw.cell (p := ⟨b3, o3 + k, none⟩) lt3).trans x3; have c4 := (hSw.cell (p := ⟨b4, o4 + k, none⟩) lt4).trans x4; (first | (go_simp; done) | (go_simp; with_reducible rfl)))
                  focus assumption
                  (try simp only [Act.put, List.setIfInBounds_toArray, List.set_cons_zero, List.set_cons_succ])
                  refine' wpAnyH_take (i := 13) (v := _) ?_ ?_ ?_ ?_ ?_ ?_ ?_ ?_
                  rotate_left 2
                  focus (simp only [List.getElem?_toArray, List.getElem?_cons_succ, List.getElem?_cons_zero]; rfl)
                  focus kernel_rfl
                  focus kernel_rfl
                  focus kernel_rfl
                  focus exact (fun _ _ _ h => h)
                  refine Or.inl ⟨?_, ?_⟩
                  focus (go_simp; done)
                  focus (intro wS hSw; (first | (go_simp; done) | (go_simp; with_reducible rfl)))
                  focus assumption
                  (try simp only [Act.put, List.setIfInBounds_toArray, List.set_cons_zero, List.set_cons_succ])
                  refine' wpAnyH_take (i := 14) (v := _) ?_ ?_ ?_ ?_ ?_ ?_ ?_ ?_
                  rotate_left 2
                  focus (simp only [List.getElem?_toArray, List.getElem?_cons_succ, List.getElem?_cons_zero]; rfl)
                  focus kernel_rfl
                  focus kernel_rfl
                  focus kernel_rfl
                  focus exact (fun _ _ _ h => h)
                  refine Or.inl ⟨?_, ?_⟩
                  focus (go_simp; done)
                  focus (intro wS hSw; (first | (go_simp; done) | (go_simp; with_reducible rfl)))
                  focus assumption
                  (try simp only [Act.put, List.setIfInBounds_toArray, List.set_cons_zero, List.set_cons_succ])
                  refine' wpAnyH_take (i := 15) (v := _) ?_ ?_ ?_ ?_ ?_ ?_ ?_ ?_
                  rotate_left 2
                  focus (simp only [List.getElem?_toArray, List.getElem?_cons_succ, List.getElem?_cons_zero]; rfl)
                  focus kernel_rfl
                  focus kernel_rfl
                  focus kernel_rfl
                  focus exact (fun _ _ _ h => h)
                  refine Or.inl ⟨?_, ?_⟩
                  focus (go_simp; done)
                  focus (intro wS hSw; (first | (go_simp; done) | (go_simp; with_reducible rfl)))
                  focus assumption
                  (try simp only [Act.put, List.setIfInBounds_toArray, List.set_cons_zero, List.set_cons_succ])
                  refine' wpAnyH_take (i := 16) (v := _) ?_ ?_ ?_ ?_ ?_ ?_ ?_ ?_
                  rotate_left 2
                  focus (simp only [List.getElem?_toArray, List.getElem?_cons_succ, List.getElem?_cons_zero]; rfl)
                  focus kernel_rfl
                  focus kernel_rfl
                  focus kernel_rfl
                  focus exact (fun _ _ _ h => h)
                  refine Or.inl ⟨?_, ?_⟩
                  focus (go_simp; done)
                  focus (intro wS hSw; have c0 := (hSw.cell (p := ⟨b0, o0 + k, none⟩) lt0).trans x0; have c1 := (hSw.cell (p := ⟨b1, o1 + k, none⟩) lt1).trans x1; have c2 := (hSw.cell (p := ⟨b2, o2 + k, none⟩) lt2).trans x2; have c3 := (hSw.cell (p := ⟨b3, o3 + k, none⟩) lt3).trans x3; have c4 := (hSw.cell (p := ⟨b4, o4 + k, none⟩) lt4).trans x4; (first | (go_simp; done) | (go_simp; with_reducible rfl)))
                  focus assumption
                  (try simp only [Act.put, List.setIfInBounds_toArray, List.set_cons_zero, List.set_cons_succ])
                  refine' wpAnyH_take (i := 17) (v := _) ?_ ?_ ?_ ?_ ?_ ?_ ?_ ?_
                  rotate_left 2
                  focus (simp only [List.getElem?_toArray, List.getElem?_cons_succ, List.getElem?_cons_zero]; rfl)
                  focus kernel_rfl
                  focus kernel_rfl
                  focus kernel_rfl
                  focus exact (fun _ _ _ h => h)
                  refine Or.inl ⟨?_, ?_⟩
                  focus (go_simp; done)
                  focus (intro wS hSw; (first | (go_simp; done) | (go_simp; with_reducible rfl)))
                  focus assumption
                  (try simp only [Act.put, List.setIfInBounds_toArray, List.set_cons_zero, List.set_cons_succ])
                  refine' wpAnyH_take (i := 18) (v := _) ?_ ?_ ?_ ?_ ?_ ?_ ?_ ?_
                  rotate_left 2
                  focus (simp only [List.getElem?_toArray, List.getElem?_cons_succ, List.getElem?_cons_zero]; rfl)
                  focus kernel_rfl
                  focus kernel_rfl
                  focus kernel_rfl
                  focus exact (fun _ _ _ h => h)
                  refine Or.inl ⟨?_, ?_⟩
                  focus (go_simp; done)
                  focus (intro wS hSw; (first | (go_simp; done) | (go_simp; with_reducible rfl)))
                  focus assumption
                  (try simp only [Act.put, List.setIfInBounds_toArray, List.set_cons_zero, List.set_cons_succ])
                  refine' wpAnyH_take (i := 19) (v := _) ?_ ?_ ?_ ?_ ?_ ?_ ?_ ?_
                  rotate_left 2
                  focus (simp only [List.getElem?_toArray, List.getElem?_cons_succ, List.getElem?_cons_zero]; rfl)
                  focus kernel_rfl
                  focus kernel_rfl
                  focus kernel_rfl
                  focus exact (fun _ _ _ h => h)
                  refine Or.inl ⟨?_, ?_⟩
                  focus (go_simp; done)
                  focus (intro wS hSw; (first | (go_simp; done) | (go_simp; with_reducible rfl)))
                  focus assumption
                  (try simp only [Act.put, List.setIfInBounds_toArray, List.set_cons_zero, List.set_cons_succ])
                  refine' wpAnyH_take (i := 20) (v := _) ?_ ?_ ?_ ?_ ?_ ?_ ?_ ?_
                  rotate_left 2
                  focus (simp only [List.getElem?_toArray, List.getElem?_cons_succ, List.getElem?_cons_zero]; rfl)
                  focus kernel_rfl
                  focus kernel_rfl
                  focus kernel_rfl
                  focus exact (fun _ _ _ h => h)
                  refine Or.inl ⟨?_, ?_⟩
                  focus (go_simp; done)
                  focus (intro wS hSw; have c0 := (hSw.cell (p := ⟨b0, o0 + k, none⟩) lt0).trans x0; have c1 := (hSw.cell (p := ⟨b1, o1 + k, none⟩) lt1).trans x1; have c2 := (hSw.cell (p := ⟨b2, o2 + k, none⟩) lt2).trans x2; have c3 := (hSw.cell (p := ⟨b3, o3 + k, none⟩) lt3).trans x3; have c4 := (hSw.cell (p := ⟨b4, o4 + k, none⟩) lt4).trans x4; (first | (go_simp; done) | (go_simp; with_reducible rfl)))
                  focus assumption
                  (try simp only [Act.put, List.setIfInBounds_toArray, List.set_cons_zero, List.set_cons_succ])
                  refine wpAnyH_ready (rs := [21]) (by kernel_rfl) (by simp) ?_
                  refine' AllReadyH.cons ?_ (fun K hK => ?_) AllReadyH.nil
                  rotate_left
                  focus (simp only [List.getElem?_toArray, List.getElem?_cons_succ, List.getElem?_cons_zero]; rfl)
                  go_simp
                  go_at_call 6
                  refine (HOf.out u0a).mono ?_
                  rintro e u1a ⟨rfl, hb⟩
                  replace HR := Lib.hid (own_below HR.out hb)
                  have hS := blt hHeld hb
                  clear hb
                  refine hK.out _ _ (hS) (fun hH2 => ?_)
                  clear hK K hHeld
                  have hHeld := hH2
                  clear hH2
                  (try simp only [Act.put, List.setIfInBounds_toArray, List.set_cons_zero, List.set_cons_succ])
                  clear hS
                  refine wpAnyH_ready (rs := [22]) (by kernel_rfl) (by simp) ?_
                  refine' AllReadyH.cons ?_ (fun K hK => ?_) AllReadyH.nil
                  rotate_left
                  focus (simp only [List.getElem?_toArray, List.getElem?_cons_succ, List.getElem?_cons_zero]; rfl)
                  go_simp
                  have hb : Below u1a.heap.size u1a (u1a.alloc (.cells #[.int .i64 ik, .int .i64 ia, .int .i64 ib, .int .i64 ic, .int .i64 io, .int .i64 im] 26)) := bla (Below.refl _ _) _
                  have HLit := Lib.hid (lit_in u1a ik ia ib ic io im _ rfl)
                  replace HR := Lib.hid (own_below HR.out hb)
                  have hS := blt hHeld hb
                  clear hb
                  refine hK.out _ _ (hS) (fun hH2 => ?_)
                  clear hK K hHeld
                  have hHeld := hH2
                  clear hH2
                  (try simp only [Act.put, List.setIfInBounds_toArray, List.set_cons_zero, List.set_cons_succ])
                  clear hS
                  generalize u1a.alloc (.cells #[.int .i64 ik, .int .i64 ia, .int .i64 ib, .int .i64 ic, .int .i64 io, .int .i64 im] 26) = u2a at *
                  generalize u1a.heap.size = pl at *
                  refine wpAnyH_ready (rs := [23]) (by kernel_rfl) (by simp) ?_
                  refine' AllReadyH.cons ?_ (fun K hK => ?_) AllReadyH.nil
                  rotate_left
                  focus (simp only [List.getElem?_toArray, List.getElem?_cons_succ, List.getElem?_cons_zero]; rfl)
                  have HB3 := Lib.hid (show w.heap.size ≤ u2a.heap.size from hHeld.size)
                  refine in_append_row rfl (.tmp 53) (.tmp 75) 24 rfl w.heap.size 26 iT _ 6 48 Try.underlying24 HIT.out.1 HIT.out.2.1 HIT.out.2.2.1 HIT.out.2.2.2 rfl (by decide) (.slice A k D) k _ (by simp [Act.eval, Act.put]) HR.out _ 1 (iCells ⟨ik, ia, ib, ic, io, im⟩) rfl HLit.out one_in (by unfold maxLen; omega) (by omega) HB3.out ?_
                  intro y1 u3a hown hg hv
                  have hS := hHeld.grown hg HB3.out (fun q hq => (HR.out.lt q hq).1)
                  have HQ := Lib.hid hown
                  clear hown hg hv
                  refine hK.out _ _ (hS) (fun hH2 => ?_)
                  clear hK K hHeld
                  have hHeld := hH2
                  clear hH2
                  (try simp only [Act.put, List.setIfInBounds_toArray, List.set_cons_zero, List.set_cons_succ])
                  clear hS
                  refine' wpAnyH_take (i := 24) (v := _) ?_ ?_ ?_ ?_ ?_ ?_ ?_ ?_
                  rotate_left 2
                  focus (simp only [List.getElem?_toArray, List.getElem?_cons_succ, List.getElem?_cons_zero]; rfl)
                  focus kernel_rfl
                  focus kernel_rfl
                  focus kernel_rfl
                  focus exact (fun _ _ _ h => h)
                  refine Or.inl ⟨?_, ?_⟩
                  focus (go_simp; done)
                  focus (intro wS hSw; (first | (go_simp; done) | (go_simp; with_reducible rfl)))
                  focus assumption
                  (try simp only [Act.put, List.setIfInBounds_toArray, List.set_cons_zero, List.set_cons_succ])
                  refine wpAnyH_done (by kernel_rfl) ?_ _
                  have HZ := Lib.hid hHeld
                  clear hHeld HR HLit HB3
                  go_wp2
                  exact ⟨⟨k + 1, _, L ++ [⟨ik, ia, ib, ic, io, im⟩], by omega, by rw [List.length_append, HLn.out]; rfl, by first | rfl | go_num, rfl, Lib.hid ⟨HZ.out, by rw [List.flatMap_append]; simpa using HQ.out⟩⟩, by simp [intOf]; omega⟩
                · go_wp2
                  go_meet
                  case rel =>
                    obtain ⟨A, C, hy⟩ := own_eta HS.out.2
                    subst hy
                    exact ⟨L, A, k, C, _, rfl, rfl, HLn.out, hk30, HS⟩
              · go_wp2
                go_meet
                case rel =>
                  obtain ⟨A, C, hy⟩ := own_eta HS.out.2
                  subst hy
                  exact ⟨L, A, k, C, _, rfl, rfl, HLn.out, hk30, HS⟩
            · go_wp2
              go_meet
              case rel =>
                obtain ⟨A, C, hy⟩ := own_eta HS.out.2
                subst hy
                exact ⟨L, A, k, C, _, rfl, rfl, HLn.out, hk30, HS⟩
          · go_wp2
            go_meet
            case rel =>
              obtain ⟨A, C, hy⟩ := own_eta HS.out.2
              subst hy
              exact ⟨L, A, k, C, _, rfl, rfl, HLn.out, hk30, HS⟩
        · go_wp2
          go_meet
          case rel =>
            obtain ⟨A, C, hy⟩ := own_eta HS.out.2
            subst hy
            exact ⟨L, A, k, C, _, rfl, rfl, HLn.out, hk30, HS⟩
      · go_wp2
        go_meet
        case rel =>
          obtain ⟨A, C, hy⟩ := own_eta HS.out.2
          subst hy
          exact ⟨L, A, k, C, _, rfl, rfl, HLn.out, hk30, HS⟩
  case rest =>
    obtain ⟨L, A, m, C, z, rfl, rfl, hLm, hm30, HS⟩ := hcut
    have HLm := Lib.hid hLm
    have HIn := Lib.hid (show InsL _ (.slice A m C) L from by unfold InsL; rw [hLm]; exact RowIn.own HS.out.2)
    have hLl : L.length ≤ maxLen := by unfold maxLen; omega
    have HE := Lib.hid (renc_any L (.slice A m C) _ HIn.out hLl)
    have HLl := Lib.hid hLl
    clear hLm hLl HO0 HO1 HO2 HO3 HO4 HR0 HR1 HR2 HR3 HR4 HN0 HN1 HN2 HN3 HN4 lk la lb lc ln
    go_upto_region 7 with (go_at_call 7; refine HE.out.mono ?_; rintro e u1 ⟨x, rfl, hown, hb⟩; obtain ⟨B, hB⟩ : ∃ B, In.enb L = B := ⟨_, rfl⟩; have hBr := In.enb_in L; have hBl := enb_len L; rw [hB] at hown hBr hBl; obtain ⟨n, hn⟩ : ∃ n, B.length = n := ⟨_, rfl⟩; rw [hn] at hown hBl; obtain ⟨Ax, Cx, hx⟩ := own_eta hown; subst hx; have HX := Lib.hid (And.intro hown (And.intro hb (And.intro hBr hn))); clear hown hb hBr hB hn)
    have hn240 : n ≤ 240 := by have := HLm.out; omega
    clear hBl
    have HAg := Lib.hid (fun (u : World) (v : Value) (B' : List Int) (hu : Below wc.heap.size wc u) (h1 : BytL u v B') (h2 : ∀ A n c, v = .slice A n c → n ≤ c) (h3 : ∀ z ∈ B', 0 ≤ z ∧ z ≤ 255) (h4 : B'.length = n) => agree_any L B' (.slice A m C) v u (HIn.out.below hu) h1 h2 h3 HLl.out (by rw [h4]; unfold maxLen; omega))
    by_cases h0 : 0 < n
    · have h0' : (0 : Int) < n := by omega
      obtain ⟨g, c, hg, hg0, hg1, hcs⟩ := own_block HX.out.1 h0
      injection hg with e1 _ e3
      subst e1 e3
      have hat := HAt.out
      have hby := HBy.out
      have HMd := Lib.hid (gmod_any at_ n hat ⟨by omega, by omega⟩)
      obtain ⟨j, hj⟩ : ∃ j : Nat, at_ % (n : Int) = j := ⟨(at_ % (n : Int)).toNat, by have := Int.emod_nonneg at_ (show (n : Int) ≠ 0 by omega); omega⟩
      have hjn : j < n := by have := Int.emod_lt_of_pos at_ (show (0 : Int) < n by omega); omega
      rw [hj] at HMd
      have hjn' : (j : Int) < n := by omega
      have hB := HX.out.2.2.2
      have hc := hcs j (.int .u8 (B.getD j 0)) (by rw [List.getElem?_map, getD_some' 0 (by omega)]; rfl)
      generalize B.getD j 0 = bj at hc
      have hf := own_frozen HX.out.1 j
      have hxr := xor_in bj by_
      obtain ⟨xr, hxe⟩ : ∃ xr, bits BinOp.xor IntKind.u8 bj by_ = xr := ⟨_, rfl⟩
      rw [hxe] at hxr
      have HXr := Lib.hid hxr
      have HOw := Lib.hid (own_set1 (z := xr) HX.out.1 hjn)
      have HAg2 := Lib.hid (set_bel HX.out.2.1 hg0 j (.int .u8 xr))
      have HA := Lib.hid (HAg.out (u1.setCell ⟨g, j, none⟩ (.int .u8 xr)) _ (B.set j xr) HAg2.out (by unfold BytL; rw [List.length_set, hB]; exact RowIn.own HOw.out) (own_sn HOw.out) (fun z hz => by
        rcases List.mem_or_eq_of_mem_set hz with h | h
        · exact HX.out.2.2.1 z h
        · rw [h]; exact hxr) (by rw [List.length_set, hB]))
      clear hj hat hby hxr hB
      go_wp2_with (first | (go_at_call 8; refine (HMd.out _).mono ?_; rintro e u ⟨rfl, rfl⟩) | (go_at_call 9; refine HA.out.mono ?_; rintro e u2 ⟨rfl, hb⟩; have HZ := Lib.hid (blt (blt HS.out.1 HAg2.out) hb); clear hb) | (go_at_call 10; refine (awake_any _).mono ?_; rintro e u3 ⟨rfl, hb⟩; have HZ2 := Lib.hid (blt HZ.out hb); clear hb))
      go_ret
      exact ⟨rfl, HZ2.out⟩
    · have h0' : ¬ (0 : Int) < n := by omega
      have HA := Lib.hid (HAg.out u1 _ B HX.out.2.1 (by unfold BytL; rw [HX.out.2.2.2]; exact RowIn.own HX.out.1) (own_sn HX.out.1) HX.out.2.2.1 HX.out.2.2.2)
      go_wp2_with (first | (go_at_call 9; refine HA.out.mono ?_; rintro e u2 ⟨rfl, hb⟩; have HZ := Lib.hid (blt (blt HS.out.1 HX.out.2.1) hb); clear hb) | (go_at_call 10; refine (awake_any _).mono ?_; rintro e u3 ⟨rfl, hb⟩; have HZ2 := Lib.hid (blt HZ.out hb); clear hb))
      go_ret
      exact ⟨rfl, HZ2.out⟩
end Go.Proofs.Ythcjohfngnffpaa
