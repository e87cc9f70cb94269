/- The code of layer 11: rows of rows, one of which grows in its place. No condition. -/
import Derived.Test.YtpinncjnfbebkaaFcValid
import Derived.Test.YtpinncjnfbebkaaFaPts
import Derived.Laws.OwnMore
namespace Go.Proofs.Ytpinncjnfbebkaa
open Go.RowKit
set_option linter.unusedVariables false
set_option linter.unusedSimpArgs false
attribute [local go_sem] y_undef
theorem set_grown (u : World) (g j : Nat) (v : Value) : u.grownBy (u.setCell ⟨g, j, none⟩ v) (some g) :=
  ⟨rfl, rfl, rfl, by simp, fun k hk hne => Below.heap_setCell _ _ _ _ (fun e => hne (by rw [e]))⟩
/-- Row i has grown, and is put in its place. -/
theorem Mps.put {u u1 : World} {base g n cap i : Nat} {x z : Value} {us : List Value} {ts : List (List Int)} {q r : List Int} (h : Mps base u (.slice (some ⟨g, 0, none⟩) n cap) us ts) (hn : ts.length = n) (hx : us[i]? = some x) (hq : ts.getD i [] = q)
    (hown : u1.ownsRow base 3 1 z (q.length + r.length) (q.map (Value.int .i64) ++ r.map (Value.int .i64))) (hg : u.grownBy u1 x.ownBlock) (hv : z.ownBlock = x.ownBlock ∨ z.ownBlock = some u.heap.size) :
    Mps base (u1.setCell ⟨g, i, none⟩ z) (.slice (some ⟨g, 0, none⟩) n cap) (us.set i z) (ts.set i (q ++ r)) := by
  subst hn
  have hlen : us.length = ts.length := h.len
  obtain ⟨h1, h2, h3, h4⟩ := h
  have hi : i < us.length := (List.getElem?_eq_some_iff.1 hx).1
  have hxm : x ∈ us := List.mem_of_getElem? hx
  have hxy : Ap x (.slice (some ⟨g, 0, none⟩) ts.length cap) := (h4 x hxm).symm
  have hk1 := h1.kept hg hxy.kept
  have hlt : g < u.heap.size := (h1.lt g rfl).2
  have hzy : Ap z (.slice (some ⟨g, 0, none⟩) ts.length cap) := ap_new hv hxy (fun k hk => by simp [Value.ownBlock] at hk; omega)
  have hap : ∀ (j : Nat) (hj : j < us.length), j ≠ i → Ap x us[j] := fun j hj hne => by
    have hxi : us[i] = x := by obtain ⟨h', e⟩ := List.getElem?_eq_some_iff.1 hx; exact e
    rcases Nat.lt_or_ge j i with hlt' | hge
    · have := (List.pairwise_iff_getElem.1 h3) j i hj hi hlt'
      rw [hxi] at this
      exact this.symm
    · have := (List.pairwise_iff_getElem.1 h3) i j hi hj (by omega)
      rw [hxi] at this
      exact this
  have hzp : ∀ (j : Nat) (hj : j < us.length), j ≠ i → Ap z us[j] := fun j hj hne => ap_new hv (hap j hj hne) (fun k hk => own_block_lt (h2 j _ (List.getElem?_eq_getElem hj)) hk)
  have hset : ∀ {e : TypeId} {m : Nat} {v : Value} {xs : List Value}, u1.ownsRow base e 1 v m xs → Ap v (.slice (some ⟨g, 0, none⟩) ts.length cap) → (u1.setCell ⟨g, i, none⟩ z).ownsRow base e 1 v m xs := fun ho ha =>
    World.ownsRow.kept ho (set_grown u1 g i z) (by
      have := ha.symm.kept
      simpa [Value.ownBlock] using this)
  refine ⟨?_, fun j y hy => ?_, ?_, fun y hy => ?_⟩
  · rw [List.length_set]; exact (hk1.stored i z).1
  · by_cases e : j = i
    · subst e
      have hy' : z = y := by rw [List.getElem?_set_self hi] at hy; injection hy
      subst hy'
      have e2 : (ts.set j (q ++ r)).getD j [] = q ++ r := by rw [List.getD_eq_getElem?_getD, List.getElem?_set_self (by omega)]; rfl
      rw [e2, List.map_append, List.length_append]
      exact hset hown hzy
    · rw [List.getElem?_set_ne (fun h => e h.symm)] at hy
      have hj : j < us.length := (List.getElem?_eq_some_iff.1 hy).1
      have e2 : (ts.set i (q ++ r)).getD j [] = ts.getD j [] := by rw [List.getD_eq_getElem?_getD, List.getElem?_set_ne (fun h => e h.symm), ← List.getD_eq_getElem?_getD]
      have hyj : us[j] = y := by obtain ⟨h', e⟩ := List.getElem?_eq_some_iff.1 hy; exact e
      rw [e2]
      refine hset ((h2 j y hy).kept hg ?_) (h4 y (List.mem_of_getElem? hy)).symm
      have := hap j hj e
      rw [hyj] at this
      exact this.kept
  · rw [List.pairwise_iff_getElem]
    intro a b ha hb hab
    have ha' : a < us.length := by rw [List.length_set] at ha; exact ha
    have hb' : b < us.length := by rw [List.length_set] at hb; exact hb
    by_cases ea : a = i
    · subst ea
      rw [List.getElem_set_self, List.getElem_set_ne (by omega)]
      exact hzp b hb' (by omega)
    · by_cases eb : b = i
      · subst eb
        rw [List.getElem_set_self, List.getElem_set_ne (by omega)]
        exact (hzp a ha' ea).symm
      · rw [List.getElem_set_ne (by omega), List.getElem_set_ne (by omega)]
        exact (List.pairwise_iff_getElem.1 h3) a b ha' hb' hab
  · rcases List.mem_or_eq_of_mem_set hy with hy | rfl
    · exact h4 y hy
    · exact hzy.symm
/-- Rows that are all nil. -/
theorem Mps.made {base n : Nat} {u : World} {y : Value} (h : u.ownsRow base 22 1 y n (List.replicate n (.slice none 0 0))) : Mps base u y (List.replicate n (.slice none 0 0)) (List.replicate n []) := by
  refine ⟨by rw [List.length_replicate]; exact h, fun i x hx => ?_, ?_, fun x hx => ?_⟩
  · have hi : i < n := by have := (List.getElem?_eq_some_iff.1 hx).1; simpa using this
    have hx' : x = .slice none 0 0 := List.eq_of_mem_replicate (List.mem_of_getElem? hx)
    subst hx'
    have e : (List.replicate n ([] : List Int)).getD i [] = [] := by simp [List.getD, List.getElem?_replicate, hi]
    rw [e]
    exact World.ownsRow_nil _ _ _ _
  · exact List.pairwise_replicate.2 (.inr (Ap.nil _))
  · rw [List.eq_of_mem_replicate hx]
    exact (Ap.nil _).symm
section
variable {P : Program} (w : World)
theorem step_append_both {ops : Array Oper} {o : Oper} {a : Act} {K : Act → World → Prop} {Q : Exit → Act → World → Prop} {E : Prop} (hgd : o.guard = none) (s x : Operand) (t : TypeId)
    (ho : o.op = .call { callee := .builtin .append, args := #[s, x], argTypes := #[t, t] })
    (base : Nat) (e : TypeId) (i : TypeInfo) (z : Value) (size bytes : Nat) (ht : P.underlying t = some (.slice e)) (hi : P.info? e = some i) (hz : i.zero = some z)
    (hsize : i.size = size) (hby : i.bytes = bytes) (hzs : z.cells.size = size) (hsz : 0 < size)
    (v : Value) (n : Nat) (xs : List Value) (hs : a.eval s = v) (hown : w.ownsRow base e size v n xs)
    (A : Option Addr) (m c : Nat) (news : List Value) (hx : a.eval x = .slice A m c) (hl : news.length = m * size) (hA : A = none → m = 0 ∧ c = 0) (hc : ∀ ad, A = some ad → ∀ j u, news[j]? = some u → w.cell? (ad.add j) = some u) (h1 : ∀ u ∈ news, u.oneCell' = true)
    (h63 : n + m ≤ maxLen) (hbytes : (n + m) * bytes ≤ 140737488355328) (hbase : base ≤ w.heap.size)
    (h : ∀ v' w', w'.ownsRow base e size v' (n + m) (xs ++ news) → w.grownBy w' v.ownBlock → (v'.ownBlock = v.ownBlock ∨ v'.ownBlock = some w.heap.size) → K (a.put o.dst v') w') :
    if Region.wanted o (yielded ops a.tmps) = true then Oper.wp P o a w K Q else E := by
  have hw : Region.wanted o (yielded ops a.tmps) = true := by simp [Region.wanted, hgd]
  rw [if_pos hw]
  have hr : ∃ v' w', (Builtin.append_ #[t, t] o.type #[v, .slice A m c]).run P w = .ok v' w' ∧ w'.ownsRow base e size v' (n + m) (xs ++ news) ∧ w.grownBy w' v.ownBlock ∧ (v'.ownBlock = v.ownBlock ∨ v'.ownBlock = some w.heap.size) := by
    cases A with
    | none =>
      obtain ⟨rfl, rfl⟩ := hA rfl
      have hn : news = [] := List.eq_nil_of_length_eq_zero (by rw [hl, Nat.zero_mul])
      subst hn
      exact ⟨v, w, run_append_owned_none w base t o.type e i size ht hi v n xs hown, by simpa using hown, World.grownBy.refl w _, .inl rfl⟩
    | some ad =>
      obtain ⟨v', w', hr, h2, h3, _, h5⟩ := run_append_own_at (P := P) w base t o.type e i z size bytes ht hi hz hsize hby hzs hsz v n xs hown ad m c news hl (hc ad rfl) h1 h63 hbytes hbase
      exact ⟨v', w', hr, h2, h3, h5⟩
  obtain ⟨v', w', hr, h2, h3, h4⟩ := hr
  unfold Oper.wp execOp
  simp only [ho, resolve, invoke, builtin, Sem.run_bind, Sem.run_pure, Result.andThen_ok, List.map_toArray, List.map_cons, List.map_nil, hs, hx, hr]
  exact h v' w' h2 h3 h4
end
namespace Fa
variable {ps ts : List (List Int)}
theorem thr_app (q r : List Int) : thr ts (q ++ r) = thr ts q ++ thr ts r := by unfold thr; rw [List.flatMap_append]
theorem thr_take (q : List Int) (j : Nat) : (thr ts (q.take j)).length ≤ (thr ts q).length := by
  conv => rhs; rw [← List.take_append_drop j q]
  rw [thr_app, List.length_append]
  omega
/-- The lists so far: k are whole, the next is x. -/
def sofar (ps ts : List (List Int)) (k : Nat) (x : List Int) : List (List Int) := (ps.take k).map (thr ts) ++ x :: List.replicate (ps.length - (k + 1)) []
theorem sofar_len {k : Nat} (hk : k < ps.length) (x : List Int) : (sofar ps ts k x).length = ps.length := by unfold sofar; simp; omega
theorem sofar_at {k : Nat} (hk : k < ps.length) (x : List Int) : (sofar ps ts k x).getD k [] = x := by
  unfold sofar
  rw [List.getD_eq_getElem?_getD, List.getElem?_append_right (by simp; omega)]
  simp [show min k ps.length = k by omega]
theorem sofar_set {k : Nat} (hk : k < ps.length) (x y : List Int) : (sofar ps ts k x).set k y = sofar ps ts k y := by
  unfold sofar
  have hl : ((ps.take k).map (thr ts)).length = k := by simp; omega
  rw [List.set_append_right _ _ (by omega), hl, Nat.sub_self]
  rfl
theorem sofar_start {k : Nat} (hk : k < ps.length) : (ps.take k).map (thr ts) ++ List.replicate (ps.length - k) [] = sofar ps ts k [] := by
  unfold sofar
  rw [show ps.length - k = (ps.length - (k + 1)) + 1 by omega, List.replicate_succ]
theorem sofar_end {k : Nat} (hk : k < ps.length) : sofar ps ts k (thr ts (ps.getD k [])) = (ps.take (k + 1)).map (thr ts) ++ List.replicate (ps.length - (k + 1)) [] := by
  unfold sofar
  rw [List.take_add_one, List.map_append]
  simp [List.getElem?_eq_getElem hk, List.getD]
end Fa
end Go.Proofs.Ytpinncjnfbebkaa
