/- Maps whose keys are a pointer and some numbers, over any program. -/
import Derived.DeepKeys3
import Derived.LaidEqlPtr
namespace Go.Proofs.YtaabhlkhddkglaaDoor
open Go

/-- The fields are numbers, from place o on. -/
def NumFields (P : Program) : List Field → Nat → Nat → Prop
  | [], _, m => m = 0
  | f :: fs, o, m => ∃ m', m = m' + 1 ∧ f.name ≠ "_" ∧ f.offset = o ∧ P.underlying f.type = some (.int .i64) ∧ NumFields P fs (o + 1) m'

/-- The type of keys: a pointer, and m numbers. -/
structure PkTy (P : Program) (k : TypeId) (m : Nat) : Prop where
  fs : P.underlying k = some (.struct (P.fieldsOf k))
  held : P.stoodInHeld k = false
  shape : ∃ tp te j f0 fs, (P.fieldsOf k).toList = f0 :: fs ∧ f0.name ≠ "_" ∧ f0.offset = 0 ∧ f0.type = tp ∧ P.underlying tp = some (.pointer te) ∧ P.info? te = some j ∧ j.size ≠ 0 ∧ NumFields P fs 1 m

/-- That it is such a type, reckoned. -/
def numFieldsB (P : Program) : List Field → Nat → Nat → Bool
  | [], _, m => m == 0
  | _ :: _, _, 0 => false
  | f :: fs, o, m + 1 => f.name != "_" && f.offset == o && (match P.underlying f.type with | some (.int .i64) => true | _ => false) && numFieldsB P fs (o + 1) m
theorem numFields_of {P : Program} : ∀ {fs : List Field} {o m : Nat}, numFieldsB P fs o m = true → NumFields P fs o m
  | [], _, _, h => by simpa [numFieldsB, NumFields] using h
  | _ :: _, _, 0, h => by simp [numFieldsB] at h
  | f :: fs, o, m + 1, h => by
    simp only [numFieldsB, Bool.and_eq_true, bne_iff_ne, ne_eq, beq_iff_eq] at h
    obtain ⟨⟨⟨h1, h2⟩, h3⟩, h4⟩ := h
    refine ⟨m, rfl, h1, h2, ?_, numFields_of h4⟩
    split at h3
    · assumption
    · cases h3
def pkTyB (P : Program) (k : TypeId) (m : Nat) : Bool :=
  match P.underlying k with
  | some (.struct _) => !P.stoodInHeld k && (match (P.fieldsOf k).toList with
    | f0 :: fs => f0.name != "_" && f0.offset == 0 && (match P.underlying f0.type with
      | some (.pointer te) => (match P.info? te with | some j => j.size != 0 | none => false)
      | _ => false) && numFieldsB P fs 1 m
    | [] => false)
  | _ => false
theorem pkTy_of {P : Program} {k : TypeId} {m : Nat} (h : pkTyB P k m = true) : PkTy P k m := by
  unfold pkTyB at h
  split at h
  · rename_i fs0 hk
    have hfs : P.fieldsOf k = fs0 := by simp [Program.fieldsOf, hk]
    simp only [Bool.and_eq_true, Bool.not_eq_true'] at h
    obtain ⟨h1, h2⟩ := h
    split at h2
    · rename_i f0 fs hl
      simp only [Bool.and_eq_true, bne_iff_ne, ne_eq, beq_iff_eq] at h2
      obtain ⟨⟨⟨h3, h4⟩, h5⟩, h6⟩ := h2
      split at h5
      · rename_i te hp
        split at h5
        · rename_i j hj
          exact ⟨by rw [hfs]; exact hk, h1, _, te, j, f0, fs, hl, h3, h4, rfl, hp, hj, by simpa using h5, numFields_of h6⟩
        · cases h5
      · cases h5
    · cases h2
  · cases h

/-- The key of an address and numbers. -/
def pk (a : Addr) (ns : List Int) : Value := .agg ⟨.pointer (some a) :: ns.map (.int .i64)⟩
theorem pk_inj {a b : Addr} {ns ms : List Int} (h : pk a ns = pk b ms) : a = b ∧ ns = ms := by
  unfold pk at h
  injection h with h
  injection h with h
  injection h with h1 h2
  injection h1 with h1
  injection h1 with h1
  refine ⟨h1, ?_⟩
  clear h1
  induction ns generalizing ms with
  | nil => cases ms with
    | nil => rfl
    | cons => simp at h2
  | cons n ns ih => cases ms with
    | nil => simp at h2
    | cons m ms =>
      simp only [List.map_cons, List.cons.injEq] at h2
      obtain ⟨e1, e2⟩ := h2
      injection e1 with _ e1
      rw [e1, ih e2]

/-- A block of cells that is seen as nothing else. -/
def PkBlk (w : World) (b : Nat) : Prop := ∃ c t, w.heap[b]? = some (.cells c t (0, 0))
def IsPk (w : World) (m : Nat) (v : Value) : Prop := ∃ a ns, v = pk a ns ∧ ns.length = m ∧ PkBlk w a.block

section
variable {P : Program} (w : World)

theorem run_part_int {t : TypeId} (ht : P.underlying t = some (.int .i64)) {xs : Array Value} {o : Nat} {v : Value} (h : xs[o]? = some v) : (part t xs o).run P w = .ok v w := by
  simp [part, isAgg, run_underlying ht, h]
theorem run_part_ptr {t te : TypeId} (ht : P.underlying t = some (.pointer te)) {xs : Array Value} {o : Nat} {v : Value} (h : xs[o]? = some v) : (part t xs o).run P w = .ok v w := by
  simp [part, isAgg, run_underlying ht, h]

theorem eqInts (d : Nat) (xs ys : Array Value) : ∀ (fs : List Field) (o : Nat) (ns ms : List Int), NumFields P fs o ns.length → NumFields P fs o ms.length →
    (∀ i : Nat, xs[o + i]? = (ns[i]?).map (Value.int .i64)) → (∀ i : Nat, ys[o + i]? = (ms[i]?).map (Value.int .i64)) →
    ∃ r : Bool, (Op.eqFields (d + 1) xs ys fs).run P w = .ok r w ∧ (r = true ↔ ns = ms)
  | [], o, ns, ms, h1, h2, _, _ => by
    have e1 : ns = [] := List.length_eq_zero_iff.1 h1
    have e2 : ms = [] := List.length_eq_zero_iff.1 h2
    exact ⟨true, by simp [Op.eqFields], by simp [e1, e2]⟩
  | f :: fs, o, ns, ms, h1, h2, hx, hy => by
    obtain ⟨n1, e1, hn, ho, ht, h1⟩ := h1
    obtain ⟨n2, e2, _, _, _, h2⟩ := h2
    cases ns with
    | nil => simp at e1
    | cons n ns =>
      cases ms with
      | nil => simp at e2
      | cons m ms =>
        have px := run_part_int w ht (hx 0)
        have py := run_part_int w ht (hy 0)
        have l1 : n1 = ns.length := by simpa using e1.symm
        have l2 : n2 = ms.length := by simpa using e2.symm
        obtain ⟨r, hr, hi⟩ := eqInts d xs ys fs (o + 1) ns ms (l1 ▸ h1) (l2 ▸ h2) (fun i => by have := hx (i + 1); rw [show o + 1 + i = o + (i + 1) by omega]; simpa using this) (fun i => by have := hy (i + 1); rw [show o + 1 + i = o + (i + 1) by omega]; simpa using this)
        have qx : (part f.type xs f.offset).run P w = .ok (.int .i64 n) w := by rw [ho]; simpa using px
        have qy : (part f.type ys f.offset).run P w = .ok (.int .i64 m) w := by rw [ho]; simpa using py
        by_cases hnm : n = m
        · subst hnm
          exact ⟨r, by simp [Op.eqFields, hn, qx, qy, run_equalIn_int w d f.type .i64 .i64 n n ht, hr], by simp [hi]⟩
        · exact ⟨false, by simp [Op.eqFields, hn, qx, qy, run_equalIn_int w d f.type .i64 .i64 n m ht, hnm], by simp [hnm]⟩

theorem equalIn_ptr (d : Nat) {tp te : TypeId} {j : TypeInfo} {a b : Addr} (hp : P.underlying tp = some (.pointer te)) (hte : P.info? te = some j) (hsz : j.size ≠ 0)
    (ha : PkBlk w a.block) (hb : PkBlk w b.block) : ∃ r : Bool, (Op.equalIn (d + 1) tp (.pointer (some a)) (.pointer (some b))).run P w = .ok r w ∧ (r = true ↔ a = b) := by
  obtain ⟨ca, ta, ha⟩ := ha
  obtain ⟨cb, tb, hb⟩ := hb
  by_cases h : a = b
  · subst h
    exact ⟨true, by simp [Op.equalIn, run_underlying hp, sizeOf, typeInfo, hte, run_sameAddr_same], by simp⟩
  · exact ⟨false, by simp [Op.equalIn, run_underlying hp, sizeOf, typeInfo, hte, hsz, run_sameAddr_other w h ha hb], by simp [h]⟩

theorem equal_pk {k : TypeId} {m : Nat} (hk : PkTy P k m) {x y : Value} (hx : IsPk w m x) (hy : IsPk w m y) : ∃ r : Bool, (Op.equal k x y).run P w = .ok r w ∧ (r = true ↔ x = y) := by
  obtain ⟨a, ns, rfl, ln, ha⟩ := hx
  obtain ⟨b, ms, rfl, lm, hb⟩ := hy
  obtain ⟨_, te, j, f0, fs, efs, hn, ho, rfl, hp, hte, hsz, hnf⟩ := hk.shape
  obtain ⟨r0, h0, i0⟩ := equalIn_ptr w 9998 hp hte hsz ha hb
  obtain ⟨r1, h1, i1⟩ := eqInts w 9998 ⟨.pointer (some a) :: ns.map (.int .i64)⟩ ⟨.pointer (some b) :: ms.map (.int .i64)⟩ fs 1 ns ms (ln ▸ hnf) (lm ▸ hnf)
    (fun i => by rw [Nat.add_comm]; simp) (fun i => by rw [Nat.add_comm]; simp)
  have px : (part f0.type ⟨.pointer (some a) :: ns.map (.int .i64)⟩ f0.offset).run P w = .ok (.pointer (some a)) w := run_part_ptr w hp (by simp [ho])
  have py : (part f0.type ⟨.pointer (some b) :: ms.map (.int .i64)⟩ f0.offset).run P w = .ok (.pointer (some b)) w := run_part_ptr w hp (by simp [ho])
  have e : (Op.equal k (pk a ns) (pk b ms)).run P w = (Op.eqFields 9999 ⟨.pointer (some a) :: ns.map (.int .i64)⟩ ⟨.pointer (some b) :: ms.map (.int .i64)⟩ (P.fieldsOf k).toList).run P w := run_equalIn_struct w 9999 k _ _ hk.fs hk.held
  rw [efs] at e
  simp only [Op.eqFields, hn, ne_eq, not_false_eq_true, if_true, Sem.run_bind, px, py, Result.andThen_ok, h0] at e
  cases r0
  · have hab : a ≠ b := fun h => by have := i0.2 h; cases this
    exact ⟨false, by rw [e]; simp, by simp only [Bool.false_eq_true, false_iff]; exact fun h => hab (pk_inj h).1⟩
  · have hab : a = b := i0.1 rfl
    subst hab
    refine ⟨r1, by rw [e]; simpa using h1, i1.trans ⟨fun h => by rw [h], fun h => (pk_inj h).2⟩⟩

theorem find_pk {k : TypeId} {m : Nat} (hk : PkTy P k m) {x : Value} (hx : IsPk w m x) : ∀ (es : List MapEntry) (i : Nat), (∀ e ∈ es, IsPk w m e.key) →
    ((Instr.findAsking k x es i).run P w = .ok none w ∧ ∀ e ∈ es, e.key ≠ x) ∨
    ∃ j e, (Instr.findAsking k x es i).run P w = .ok (some (i + j, e.val)) w ∧ es[j]? = some e ∧ e.key = x
  | [], i, _ => Or.inl ⟨by simp [Instr.findAsking], by simp⟩
  | e :: es, i, hall => by
    obtain ⟨r, hr, hi⟩ := equal_pk w hk hx (hall e (by simp))
    cases r
    · have hne : e.key ≠ x := fun h => by have := hi.2 h.symm; cases this
      rcases find_pk hk hx es (i + 1) (fun y hy => hall y (by simp [hy])) with ⟨h1, h2⟩ | ⟨j, e', h1, h2, h3⟩
      · refine .inl ⟨by simp [Instr.findAsking, hr, h1], fun y hy => ?_⟩
        rcases List.mem_cons.1 hy with rfl | hy
        · exact hne
        · exact h2 y hy
      · exact .inr ⟨j + 1, e', by simp [Instr.findAsking, hr, h1, Nat.add_assoc, Nat.add_comm 1 j], by simpa using h2, h3⟩
    · exact .inr ⟨0, e, by simp [Instr.findAsking, hr], rfl, (hi.1 rfl).symm⟩

theorem checkInts (em : Bool) (d : Nat) (xs : Array Value) : ∀ (fs : List Field) (o : Nat) (ns : List Int), NumFields P fs o ns.length → (∀ i : Nat, xs[o + i]? = (ns[i]?).map (Value.int .i64)) →
    (forIn fs PUnit.unit fun f (_ : PUnit) => (if f.name ≠ "_" then do Instr.checkKey em (d + 1) f.type (← part f.type xs f.offset); pure (ForInStep.yield PUnit.unit) else pure (ForInStep.yield PUnit.unit) : Sem (ForInStep PUnit))).run P w = .ok PUnit.unit w
  | [], o, ns, h1, _ => by simp
  | f :: fs, o, ns, h1, hx => by
    obtain ⟨n1, e1, hn, ho, ht, h1⟩ := h1
    cases ns with
    | nil => simp at e1
    | cons n ns =>
      have px := run_part_int w ht (hx 0)
      have l1 : n1 = ns.length := by simpa using e1.symm
      have qx : (part f.type xs f.offset).run P w = .ok (.int .i64 n) w := by rw [ho]; simpa using px
      have ck : (Instr.checkKey em (d + 1) f.type (.int .i64 n)).run P w = .ok () w := by simp [Instr.checkKey, run_underlying ht]
      have := checkInts em d xs fs (o + 1) ns (l1 ▸ h1) (fun i => by have := hx (i + 1); rw [show o + 1 + i = o + (i + 1) by omega]; simpa using this)
      simp only [List.forIn_cons, Sem.run_bind, hn, ne_eq, not_false_eq_true, if_true, qx, ck, Result.andThen_ok, Sem.run_pure]
      simpa using this

theorem check_pk {k : TypeId} {m : Nat} (hk : PkTy P k m) (em : Bool) {x : Value} (hx : IsPk w m x) (d : Nat) : (Instr.checkKey em (d + 2) k x).run P w = .ok () w := by
  obtain ⟨a, ns, rfl, ln, ha⟩ := hx
  obtain ⟨_, te, j, f0, fs, efs, hn, ho, rfl, hp, hte, hsz, hnf⟩ := hk.shape
  have px : (part f0.type ⟨.pointer (some a) :: ns.map (.int .i64)⟩ f0.offset).run P w = .ok (.pointer (some a)) w := run_part_ptr w hp (by simp [ho])
  have ck : (Instr.checkKey em (d + 1) f0.type (.pointer (some a))).run P w = .ok () w := by
    simp [Instr.checkKey, run_underlying hp]
  have hi := checkInts w em d ⟨.pointer (some a) :: ns.map (.int .i64)⟩ fs 1 ns (ln ▸ hnf) (fun i => by rw [Nat.add_comm]; simp)
  show (Instr.checkKey em ((d + 1) + 1) k (pk a ns)).run P w = .ok () w
  unfold pk
  rw [Instr.checkKey]
  simp only [Sem.run_bind, run_underlying hk.fs, Result.andThen_ok]
  rw [← Array.forIn_toList, efs]
  simp only [List.forIn_cons, Sem.run_bind, hn, ne_eq, not_false_eq_true, if_true, px, ck, Result.andThen_ok, Sem.run_pure]
  simp at hi ⊢
  rw [hi]
  rfl

end

/-- A map with such keys. -/
def PkMap (w : World) (m : Nat) (r : Nat) (es : Array MapEntry) : Prop := (∃ clock, w.heap[r]? = some (.map es clock)) ∧ ∀ e ∈ es.toList, IsPk w m e.key

section
variable {P : Program} {w : World}
theorem wide_of {k : TypeId} {m : Nat} (hk : PkTy P k m) : (match P.underlying k with | some (.array _ _) | some (.struct _) => true | _ => false) = true := by rw [hk.fs]
/-- What is read of such a map. -/
theorem lookup_pk {mt k e : TypeId} {m : Nat} (hm : P.underlying mt = some (.map k e)) (hk : PkTy P k m) {r : Nat} {es : Array MapEntry} (h : PkMap w m r es) {x : Value} (hx : IsPk w m x) :
    ((∀ co : Bool, (Instr.lookup mt (.map (some r)) x co).run P w = ((zeroValue e).run P w).andThen fun z w' => .ok (if co then .tuple #[z, .bool false] else z) w') ∧ ∀ y ∈ es.toList, y.key ≠ x) ∨
    ∃ y, (∀ co : Bool, (Instr.lookup mt (.map (some r)) x co).run P w = .ok (if co then .tuple #[y.val, .bool true] else y.val) w) ∧ y ∈ es.toList ∧ y.key = x := by
  obtain ⟨⟨clock, hr⟩, hes⟩ := h
  have hc : (Instr.checkKey es.isEmpty 10000 k x).run P w = .ok () w := check_pk w hk es.isEmpty hx 9998
  rcases find_pk w hk hx es.toList 0 hes with ⟨h1, h2⟩ | ⟨j, y, h1, h2, h3⟩
  · refine .inl ⟨fun co => ?_, h2⟩
    simp only [Instr.lookup, Sem.run_bind, run_underlying hm, Result.andThen_ok, MapKept.run_getObj_map hr, Sem.run_pure, hc, run_findKey_eq w (wide_of hk), h1]
    try (cases (zeroValue e).run P w <;> simp [Result.andThen])
  · refine .inr ⟨y, fun co => ?_, List.mem_of_getElem? h2, h3⟩
    simp only [Instr.lookup, Sem.run_bind, run_underlying hm, Result.andThen_ok, MapKept.run_getObj_map hr, Sem.run_pure, hc, run_findKey_eq w (wide_of hk), h1]

/-- A new entry. -/
theorem update_pk {mt k e : TypeId} {m : Nat} (hm : P.underlying mt = some (.map k e)) (hk : PkTy P k m) {r : Nat} {es : Array MapEntry} {clock : Nat} (hr : w.heap[r]? = some (.map es clock)) (hes : ∀ e ∈ es.toList, IsPk w m e.key)
    {x : Value} (hx : IsPk w m x) (hn : ∀ y ∈ es.toList, y.key ≠ x) (u : Value) :
    (Instr.mapUpdate mt (.map (some r)) x u).run P w = .ok () { w with heap := w.heap.setIfInBounds r (.map (es.push { key := x, val := u, born := clock }) (clock + 1)) } := by
  have hc : (Instr.checkKey false 10000 k x).run P w = .ok () w := check_pk w hk false hx 9998
  rcases find_pk w hk hx es.toList 0 hes with ⟨h1, h2⟩ | ⟨j, y, h1, h2, h3⟩
  · simp only [Instr.mapUpdate, Sem.run_bind, run_underlying hm, Result.andThen_ok, MapKept.run_getObj_map hr, hc, run_findKey_eq w (wide_of hk), h1, MapKept.run_setObj_map _ hr]
  · exact absurd h3 (hn y (List.mem_of_getElem? h2))
end
end Go.Proofs.YtaabhlkhddkglaaDoor
