/- The specification's inputs, and what a run's beginning needs: copy, an array more. No condition. -/
import Derived.Test.YtojnhdkclabkgaaTrDo
import Derived.Test.YtojnhdkclabkgaaTrPath
import Derived.Laws.CopyOwn
namespace Go.Proofs.Ytojnhdkclabkgaa
open Go.RowKit
set_option linter.unusedVariables false
set_option linter.unusedSimpArgs false
attribute [local go_sem] y_undef
/-- copy onto a row that is known whole. -/
theorem wpList_copy_g {P : Program} {w : World} {ops : Array Oper} {rest : List Oper} {o : Oper} {a : Act} {Q : Exit → Act → World → Prop} (hgd : o.guard = none) (d s : Operand) (dT sT : TypeId)
    (ho : o.op = .call { callee := .builtin .copy, args := #[d, s], argTypes := #[dT, sT] }) (elem : TypeId) (hu : P.underlying dT = some (.slice elem)) (hsz : (P.info? elem).map (·.size) = some 1)
    (g dLen dCap : Nat) (hd : a.eval d = .slice (some ⟨g, 0, none⟩) dLen dCap) (vs : Value) (m : Nat) (cs : List Value) (hs : a.eval s = vs) (hr : RowIn 1 w vs m cs) (hm : m ≤ dLen)
    (cur : Array Value) (t : TypeId) (hg : Bk w g t cur) (hfit : cs.length ≤ cur.size) (h1 : ∀ v ∈ cs, v.oneCell' = true)
    (h : ∀ w', Bk w' g t (cs ++ cur.toList.drop cs.length).toArray → w.grownBy w' (some g) → wpList P ops Q rest (a.put o.dst (goInt cs.length)) w') : wpList P ops Q (o :: rest) a w := by
  obtain ⟨A, c, rfl, hl, hcs⟩ := hr
  rw [Nat.mul_one] at hl
  by_cases h0 : m = 0
  · have e0 : cs = [] := List.eq_nil_of_length_eq_zero (by omega)
    subst e0
    refine wpList_copy_nothing hgd d s dT sT ho elem hu hsz _ A dLen dCap m c hd hs (by subst h0; simp) ?_
    exact h w (by simpa using hg) (World.grownBy.refl w _)
  · obtain ⟨b, off, rfl, hlt, hc⟩ := hcs.resolve_left h0
    refine wpList_copy_own hgd d s dT sT ho elem hu hsz g 0 dLen dCap _ m c hd hs cur t hg cs (by rw [hl]; exact (Nat.min_eq_left hm).symm) (fun j v hj => ?_) (by simpa using hfit) h1 ?_
    · rw [show (⟨b, off, none⟩ : Addr).add j = ⟨b, off + j, none⟩ from by unfold Addr.add; split <;> simp_all]
      exact hc j v hj
    · refine h _ ?_ ⟨rfl, rfl, rfl, by simp [World.setRow], fun k hk hne => setRow_other w g k _ (fun e => hne (by rw [e]))⟩
      have := setRow_heap w g cur (List.take 0 cur.toList ++ (cs ++ List.drop (0 + cs.length) cur.toList)).toArray t (0, 0) hg
      simpa [Bk] using this
section
variable {lo Rb Vb : Nat} {x : G8} {va hv va' xv : Value} {us : List Value} {s : Tr.St} {steps left : Int} {w u u' : World} {q : List Int}
/-- One array more. -/
theorem Rn.push (h : Rn lo Rb Vb x va us hv s steps left u) (hO : u.ownsRow lo 3 1 xv q.length (q.map (Value.int .i64))) (hz : ∀ z ∈ us, Ap xv z) (hx : xv.ownBlock ≠ some Vb) (hown : u'.ownsRow lo 32 1 va' (s.ars.length + 1) (us ++ [xv])) (hg : u.grownBy u' va.ownBlock)
    (hv' : va'.ownBlock = va.ownBlock ∨ va'.ownBlock = some u.heap.size) : Rn lo Rb Vb x va' (us ++ [xv]) hv { s with ars := s.ars ++ [q] } steps left (u'.setCell ⟨Rb, 9, none⟩ va') := by
  have hr1 := bk_grown_t h.rb h.ar.1 (by decide) hg
  have hm := h.ar.pushx hO (ap_type hO h.ar.1 (by decide)) hz hown hg hv'
  have hne : Vb ≠ Rb := bk_ty h.vb h.rb (by decide)
  refine ⟨hr1.set 9 va', (bk_grown_t h.vb h.ar.1 (by decide) hg).far (p := ⟨Rb, 9, none⟩) hne _, hm.store_r hr1 (by decide) (by decide), fun z hzm => ?_⟩
  rcases List.mem_append.1 hzm with hm | hm
  · exact h.ap z hm
  · obtain rfl : z = xv := by simpa using hm
    exact hx
end
set_option maxHeartbeats 8000000 in
theorem rinputs_any (l : List (ByteArray × Int × Int)) (xs : List Int) (vi vx : Value) (w : World) (hi : InsIn w vi l) (hx : NumsIn w vx xs) (hl : xs.length = l.length) (hm : l.length ≤ 1000) (hr : ∀ i, i < l.length → (l.getD i Gr.in0).2.1 ≤ xs.getD i 0 ∧ xs.getD i 0 ≤ (l.getD i Gr.in0).2.2) :
    Calls Try.prog 25 #[vi, vx] w fun e w' => e = .returned (.bool true) ∧ Below w.heap.size w w' := by
  obtain ⟨Ai, ci, rfl, hic⟩ := hi.opened
  obtain ⟨Ax, cx, rfl, hxc⟩ := hx.opened
  obtain ⟨n, hn⟩ : ∃ n, l.length = n := ⟨_, rfl⟩
  rw [hl, hn] at hxc ⊢
  rw [hn] at hic hr hm
  have HI := Lib.hid hic
  have HX := Lib.hid hxc
  have HR := Lib.hid hr
  clear hi hx hl hic hxc hr hn
  have hB := Lib.hid (Below.refl w.heap.size w)
  go_enter Try.func25, Try.ntmps25
  go_wp2
  go_loopw [5] (fun i wr => ∃ k : Nat, k ≤ n ∧ i = .int .i64 k ∧ Hid (Below w.heap.size w wr)) (fun i _ => n - (intOf i).toNat)
  case atStart => exact ⟨0, Nat.zero_le _, rfl, hB⟩
  case round =>
    clear hB
    obtain ⟨k, hk, rfl, hB⟩ := hrel
    by_cases hlt : k < n
    · have hlt' : (k : Int) < n := by omega
      have hlt0 : (0 : Int) ≤ (k : Int) := by omega
      obtain ⟨bi, oi, rfl, hbi, y0, y1, y2⟩ := HI.out k hlt
      obtain ⟨bx, ox, rfl, hbx, z0⟩ := HX.out k hlt
      replace y1 := (hB.out.cell (p := ⟨bi, oi + k * 3 + 1, none⟩) hbi).trans y1
      replace y2 := (hB.out.cell (p := ⟨bi, oi + k * 3 + 2, none⟩) hbi).trans y2
      replace z0 := (hB.out.cell (p := ⟨bx, ox + k, none⟩) hbx).trans z0
      clear y0
      obtain ⟨r1, r2⟩ := HR.out k hlt
      obtain ⟨lo, hlo⟩ : ∃ z, (l.getD k Gr.in0).2.1 = z := ⟨_, rfl⟩
      obtain ⟨hi, hhi⟩ : ∃ z, (l.getD k Gr.in0).2.2 = z := ⟨_, rfl⟩
      obtain ⟨x, hx⟩ : ∃ z, xs.getD k 0 = z := ⟨_, rfl⟩
      rw [hlo] at y1 r1
      rw [hhi] at y2 r2
      rw [hx] at z0 r1 r2
      have n1 : ¬ x < lo := by omega
      have n2 : ¬ hi < x := by omega
      have hbi2 : bi < wr.heap.size := Nat.lt_of_lt_of_le hbi hB.out.size
      have hbx2 : bx < wr.heap.size := Nat.lt_of_lt_of_le hbx hB.out.size
      clear hlo hhi hx r1 r2 hbi hbx
      go_wp2
      go_quiet (fail)
      have HW := Lib.hid fun (m : Nat) => (hB.out.trans ((below_drewN _ wr m).mono hB.out.size) : Below w.heap.size w (wr.drewN m))
      clear hB y1 y2 z0
      go_wp2
      go_roundw
      case rel => exact ⟨k + 1, by omega, by first | rfl | go_num, Lib.hid (HW.out _)⟩
      case measure => simp [intOf]; omega
    · have hlt' : ¬ (k : Int) < n := by omega
      obtain rfl : n = k := by omega
      go_wp2
      go_ret
      exact ⟨rfl, hB.out⟩
end Go.Proofs.Ytojnhdkclabkgaa
