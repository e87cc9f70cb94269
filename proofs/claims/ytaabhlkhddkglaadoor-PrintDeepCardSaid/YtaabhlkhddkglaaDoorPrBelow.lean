/- The lists within lists: arguments. -/
import Derived.Test.YtaabhlkhddkglaaDoorPrBase
import Derived.StillTailTactics
namespace Go.Proofs.YtaabhlkhddkglaaDoor
open Go.RowKit
set_option linter.unusedVariables false
set_option linter.unusedSimpArgs false
attribute [local go_sem] y_undef
/-- What arguments answers: a list of one list. -/
def ArgsPost (A : Option Addr) (l c : Nat) (w : World) (e : Ending) (u : World) : Prop :=
  ∃ g, e = .returned (.slice (some ⟨g, 0, none⟩) 1 1) ∧ u.cell? ⟨g, 0, none⟩ = some (.slice A l c) ∧ g < u.heap.size ∧ Below w.heap.size w u
set_option maxRecDepth 100000 in
set_option maxHeartbeats 1000000 in
theorem args_any (k n o : Int) (s : ByteArray) (A : Option Addr) (l c : Nat) (w : World) :
    Calls Tryd.prog 17 #[.agg #[.int .i64 k, .int .i64 n, .string s, .int .i64 o, .slice A l c]] w (ArgsPost A l c w) := by
  have HB := Lib.hid (((Below.refl w.heap.size w).alloc (Nat.le_refl _) (.cells #[.int .i64 k, .int .i64 n, .string s, .int .i64 o, .slice A l c] 26)))
  have HN := Lib.hid (Blk.new (w.alloc (.cells #[.int .i64 k, .int .i64 n, .string s, .int .i64 o, .slice A l c] 26)) 24 #[.slice A l c])
  go_enter Tryd.func17, Tryd.ntmps17
  go_wp2
  go_ret
  exact ⟨w.heap.size + 1, by simp, by simp, by simp, HB.out.alloc (by simp) _⟩
/-- What below keeps. -/
structure Bl (w : World) (mp : Nat) (es : Array MapEntry) (y : Value) (us : List Value) (I F : List Exs) (u : World) : Prop where
  b : Below w.heap.size w u
  m : ∃ clock, u.heap[mp]? = some (.map es clock)
  mB : w.heap.size ≤ mp
  ks : ∀ e ∈ es.toList, IsPk w 1 e.key ∧ e.val = .bool true ∧ ∃ (i : Nat) (a : Addr) (n c : Nat), us[i]? = some (.slice (some a) n c) ∧ e.key = pk a [(n : Int)]
  o : u.ownsRow w.heap.size 24 1 y us.length us
  ym : y.ownBlock ≠ some mp
  len : us.length = F.length
  ls : ∀ (i : Nat) (t : Exs) (x : Value), F[i]? = some t → us[i]? = some x → Lst w x t
  sub : F.Sublist I
  pos : ∀ t ∈ F, 0 < t.len
  cov : ∀ t ∈ I, 0 < t.len → t ∈ F
section
variable {w u u' : World} {mp : Nat} {es : Array MapEntry} {y : Value} {us : List Value} {I F : List Exs} {a : Exs}
theorem Bl.mlt (h : Bl w mp es y us I F u) : mp < u.heap.size := by
  obtain ⟨clock, hm⟩ := h.m
  exact (Array.getElem?_eq_some_iff.1 hm).1
theorem Bl.step (h : Bl w mp es y us I F u) {r : Option Nat} (hg : u.grownBy u' r) (h1 : r ≠ some mp) (h2 : y.ownBlock = none ∨ y.ownBlock ≠ r) (hr : ∀ k, r = some k → w.heap.size ≤ k) : Bl w mp es y us I F u' where
  b := h.b.grown hg h.b.size hr
  m := by
    obtain ⟨clock, hm⟩ := h.m
    exact ⟨clock, (hg.block mp h.mlt (Ne.symm h1)).trans hm⟩
  mB := h.mB
  ks := h.ks
  o := h.o.kept hg h2
  ym := h.ym
  len := h.len
  ls := h.ls
  sub := h.sub
  pos := h.pos
  cov := h.cov
theorem Bl.below (h : Bl w mp es y us I F u) (hb : Below u.heap.size u u') : Bl w mp es y us I F u' :=
  h.step (r := none) ⟨hb.os, hb.tape, hb.output, hb.size, fun k hk _ => hb.block k hk⟩ (by simp) (by cases y.ownBlock <;> simp) (by simp)
theorem Bl.skip (h : Bl w mp es y us I F u) (ha : a.len = 0) : Bl w mp es y us (I ++ [a]) F u where
  b := h.b
  m := h.m
  mB := h.mB
  ks := h.ks
  o := h.o
  ym := h.ym
  len := h.len
  ls := h.ls
  sub := h.sub.trans (List.sublist_append_left _ _)
  pos := h.pos
  cov := fun t ht hp => by
    rcases List.mem_append.1 ht with h1 | h1
    · exact h.cov t h1 hp
    · obtain rfl : t = a := by simpa using h1
      omega
theorem Bl.known (h : Bl w mp es y us I F u) {i : Nat} {A : Addr} {c : Nat} (hu : us[i]? = some (.slice (some A) a.len c)) (ha : a.At w (PkBlk w) (some A)) : Bl w mp es y us (I ++ [a]) F u where
  b := h.b
  m := h.m
  mB := h.mB
  ks := h.ks
  o := h.o
  ym := h.ym
  len := h.len
  ls := h.ls
  sub := h.sub.trans (List.sublist_append_left _ _)
  pos := h.pos
  cov := fun t ht hp => by
    rcases List.mem_append.1 ht with h1 | h1
    · exact h.cov t h1 hp
    · obtain rfl : t = a := by simpa using h1
      have hi : i < F.length := by rw [← h.len]; exact (List.getElem?_eq_some_iff.1 hu).1
      have hF : F[i]? = some F[i] := List.getElem?_eq_getElem hi
      obtain ⟨A', c', e, _, hA, _⟩ := h.ls i _ _ hF hu
      injection e with e1 e2 _
      have := Exs.At.uniq ha (e1 ▸ hA) e2
      rw [this]
      exact List.getElem_mem hi
/-- The world with another map. -/
def putMap (u : World) (mp : Nat) (es : Array MapEntry) (clock : Nat) : World := { u with heap := u.heap.setIfInBounds mp (.map es clock) }
theorem putMap_size (u : World) (mp : Nat) (es : Array MapEntry) (clock : Nat) : (putMap u mp es clock).heap.size = u.heap.size := by simp [putMap]
theorem putMap_grown (u : World) (mp : Nat) (es : Array MapEntry) (clock : Nat) : u.grownBy (putMap u mp es clock) (some mp) :=
  ⟨rfl, rfl, rfl, by simp [putMap], fun k hk hne => by
    have : mp ≠ k := fun e => hne (by rw [e])
    simp [putMap, Array.getElem?_setIfInBounds, this]⟩
theorem putMap_at {u : World} {mp : Nat} (h : mp < u.heap.size) (es : Array MapEntry) (clock : Nat) : (putMap u mp es clock).heap[mp]? = some (.map es clock) := by simp [putMap, Array.getElem?_setIfInBounds, h]
theorem Bl.own_put (h : Bl w mp es y us I F u) (es' : Array MapEntry) (clock : Nat) : (putMap u mp es' clock).ownsRow w.heap.size 24 1 y us.length us := h.o.kept (putMap_grown u mp es' clock) (.inr h.ym)
/-- A list is new: it is noted, and put behind the others. -/
theorem Bl.add (h : Bl w mp es y us I F u) {A : Addr} {c clock : Nat} (hl : Lst w (.slice (some A) a.len c) a) (hp : 0 < a.len) {u0 : World} {y' : Value} {e : MapEntry} (he : e.key = pk A [(a.len : Int)] ∧ e.val = .bool true) (hk : PkBlk w A.block)
    (hb : Below (putMap u mp (es.push e) clock).heap.size (putMap u mp (es.push e) clock) u0) (hg : u0.grownBy u' y.ownBlock) (hown : u'.ownsRow w.heap.size 24 1 y' (us.length + 1) (us ++ [.slice (some A) a.len c])) (hv : y'.ownBlock = y.ownBlock ∨ y'.ownBlock = some u0.heap.size) :
    Bl w mp (es.push e) y' (us ++ [.slice (some A) a.len c]) (I ++ [a]) (F ++ [a]) u' := by
  have hlt : mp < u.heap.size := h.mlt
  have hs0 : u.heap.size ≤ u0.heap.size := by have := hb.size; rw [putMap_size] at this; exact this
  have hyB : ∀ k, y.ownBlock = some k → w.heap.size ≤ k := fun k hk => (h.o.lt k hk).1
  have h1 : Below w.heap.size w (putMap u mp (es.push e) clock) := h.b.grown (putMap_grown u mp _ clock) h.b.size (fun k hk => by injection hk with hk; have := h.mB; omega)
  have h2 : Below w.heap.size w u0 := h1.trans (hb.mono (by rw [putMap_size]; exact h.b.size))
  refine { b := h2.grown hg h2.size hyB, m := ⟨clock, ?_⟩, mB := h.mB, ks := ?_, o := by simpa using hown, ym := ?_, len := by simp [h.len], ls := ?_, sub := h.sub.append (List.Sublist.refl _), pos := ?_, cov := ?_ }
  · rw [hg.block mp (by omega) (Ne.symm h.ym), hb.block mp (by rw [putMap_size]; exact hlt), putMap_at hlt]
  · intro x hx
    rw [Array.toList_push] at hx
    rcases List.mem_append.1 hx with hx | hx
    · obtain ⟨p1, p2, i, a', n, c', p3, p4⟩ := h.ks x hx
      exact ⟨p1, p2, i, a', n, c', by rw [List.getElem?_append_left (List.getElem?_eq_some_iff.1 p3).1]; exact p3, p4⟩
    · obtain rfl : x = e := by simpa using hx
      exact ⟨⟨A, [(a.len : Int)], he.1, rfl, hk⟩, he.2, us.length, A, a.len, c, by simp, he.1⟩
  · rcases hv with hv | hv <;> rw [hv]
    · exact h.ym
    · intro e1
      injection e1 with e1
      omega
  · intro i t x hF hu
    by_cases hi : i < F.length
    · rw [List.getElem?_append_left hi] at hF
      rw [List.getElem?_append_left (by rw [h.len]; exact hi)] at hu
      exact h.ls i t x hF hu
    · have hi2 : i = F.length := by
        have := (List.getElem?_eq_some_iff.1 hF).1
        simp at this
        omega
      subst hi2
      have e1 : t = a := by simpa using hF.symm
      rw [← h.len] at hu
      have e2 : x = .slice (some A) a.len c := by simpa using hu.symm
      rw [e1, e2]
      exact hl
  · intro t ht
    rcases List.mem_append.1 ht with h1 | h1
    · exact h.pos t h1
    · obtain rfl : t = a := by simpa using h1
      exact hp
  · intro t ht hp'
    rcases List.mem_append.1 ht with h1 | h1
    · exact List.mem_append_left _ (h.cov t h1 hp')
    · exact List.mem_append_right _ h1
end
end Go.Proofs.YtaabhlkhddkglaaDoor
