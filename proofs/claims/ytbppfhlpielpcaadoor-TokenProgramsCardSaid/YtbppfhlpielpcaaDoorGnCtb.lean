/- The generator's condition and target. The generator's target. Statements as the generator makes them: rows of cells and the trees below them. The generator's block. -/
import Derived.Test.YtbppfhlpielpcaaDoorGnEx
import Derived.Maps.AppendAt
namespace Go.Proofs.YtbppfhlpielpcaaDoor
open Go.RowKit
set_option linter.unusedVariables false
/-- The maker, a step from a world w0 on, and a block of a result. -/
def Bg (C : Cx) (s : Ms) (w0 : World) (g : Nat) (w' : World) : Prop := Mks C s w' ∧ Gen C.D C.M C.B w0 w' ∧ (∃ a b c d e, Blk w' g 91 #[a, b, c, d, e]) ∧ C.B ≤ g ∧ w0.heap.size ≤ g
section
variable {C : Cx} {s : Ms} {w w0 w1 : World} {g : Nat}
theorem Bg.drew (h : Bg C s w0 g w) : Bg C s w0 g w.drew := ⟨h.1.drewN 1, h.2.1.drew, h.2.2⟩
theorem Bg.step (h : Bg C s w0 g w) (hm : Mks C s w1) (hg : Gen C.D C.M C.B w w1) : Bg C s w0 g w1 := by
  obtain ⟨h1, h2, ⟨a, b, c, d, e, hb⟩, hB⟩ := h
  exact ⟨hm, h2.trans hg, ⟨a, b, c, d, e, h1.res hg hb (.inl rfl)⟩, hB⟩
theorem Bg.five (h : Bg C s w0 g w) : ∃ a b c d e, (w.cell? ⟨g, 0, none⟩ = some a ∧ w.cell? ⟨g, 1, none⟩ = some b ∧ w.cell? ⟨g, 2, none⟩ = some c ∧ w.cell? ⟨g, 3, none⟩ = some d ∧ w.cell? ⟨g, 4, none⟩ = some e) ∧
    w.frozen? ⟨g, 0, none⟩ = false ∧ w.frozen? ⟨g, 1, none⟩ = false ∧ w.frozen? ⟨g, 2, none⟩ = false ∧ w.frozen? ⟨g, 3, none⟩ = false ∧ w.frozen? ⟨g, 4, none⟩ = false := by
  obtain ⟨_, _, ⟨a, b, c, d, e, hb⟩, _⟩ := h
  exact ⟨a, b, c, d, e, hb.five⟩
theorem Bg.set5 (h : Bg C s w0 g w) (a b c d e : Value) : Bg C s w0 g (set5 w g a b c d e) := by
  obtain ⟨h1, h2, ⟨a', b', c', d', e', hb⟩, hB, hg⟩ := h
  exact ⟨h1.set5 hb hB, gen_set5 h2 hg _ _ _ _ _, ⟨a, b, c, d, e, hb.set5⟩, hB, hg⟩
/-- The result is stored, and handed back. -/
theorem Bg.fin (h : Bg C s w0 g w) {ht : Nat} {k n o : Int} {x : ByteArray} {a : Exs} {A : Option Addr} {c : Nat} (he : ExOut (g + 1) ht w k n x o a A c) :
    ExPost C s ht w0 (.returned (.agg #[.int .i64 k, .int .i64 n, .string x, .int .i64 o, .slice A a.len c])) (Go.Proofs.YtbppfhlpielpcaaDoor.set5 w g (.int .i64 k) (.int .i64 n) (.string x) (.int .i64 o) (.slice A a.len c)) :=
  ⟨k, n, x, o, a, A, c, rfl, ex_set5 (by omega) (by have := h.2.2.2.2; omega) he _ _ _ _ _, (h.set5 _ _ _ _ _).1, (h.set5 _ _ _ _ _).2.1⟩
theorem Bg.below (h : Bg C s w0 g w) (hb : Below w.heap.size w w1) : Bg C s w0 g w1 := h.step (h.1.below hb) (Gen.below hb _ _ _)
theorem Bg.next (h : Bg C s w0 g w) (n : Int) (hn : 0 ≤ n ∧ n ≤ 1000000) :
    Calls Tryd.prog 30 #[.pointer (some ⟨C.D, 0, none⟩), .int .i64 n] w fun e w' => ∃ r : Int, e = .returned (.int .i64 r) ∧ 0 ≤ r ∧ (r < n ∨ r = 0) ∧ Bg C s w0 g w' :=
  (next_mk h.1 n hn).mono fun e w' ⟨r, he, h0, h1, hm, hg⟩ => ⟨r, he, h0, h1, h.step hm hg⟩
theorem Bg.num (h : Bg C s w0 g w) (n : Int) : Calls Tryd.prog 81 #[.int .i64 n] w fun e w' => e = .returned (.agg #[.int .i64 1, .int .i64 n, .string ⟨#[]⟩, .int .i64 0, .slice none 0 0]) ∧ Bg C s w0 g w' :=
  (num_any n w).mono fun e w' ⟨he, hb⟩ => ⟨he, h.below hb⟩
theorem Bg.nam (h : Bg C s w0 g w) (x : ByteArray) : Calls Tryd.prog 84 #[.string x] w fun e w' => e = .returned (.agg #[.int .i64 2, .int .i64 0, .string x, .int .i64 0, .slice none 0 0]) ∧ Bg C s w0 g w' :=
  (nam_any x w).mono fun e w' ⟨he, hb⟩ => ⟨he, h.below hb⟩
theorem Bg.name (h : Bg C s w0 g w) {vb vf : Nat} (he : C.va = some ⟨vb, vf, none⟩) :
    Calls Tryd.prog 67 #[.pointer (some ⟨C.M, 0, none⟩), .slice (some ⟨vb, vf, none⟩) C.vs.length C.vc] w fun e w' => ∃ x, e = .returned (.string x) ∧ Nm x ∧ Bg C s w0 g w' := by
  obtain ⟨b, f, e, _, _, hl, hD, hM, hR⟩ := h.1.vars.rd h.1.nums.1 h.1.nums.2.2.2.2.1
  rw [he] at e
  injection e with e
  injection e with e1 e2
  subst e1 e2
  exact (name_mk h.1 _ _ _ _ h.1.nums.1 (by have := h.1.nums.2.1; omega) hl hD hR).mono fun e w' ⟨x, he, hx, hm, hg⟩ => ⟨x, he, hx, h.step hm hg⟩
theorem Bg.holds (h : Bg C s w0 g w) {vb vf : Nat} (he : C.va = some ⟨vb, vf, none⟩) : w.cell? ⟨C.M, 0, none⟩ = some (.pointer (some ⟨C.D, 0, none⟩)) ∧ w.cell? ⟨C.M, 1, none⟩ = some (.slice (some ⟨vb, vf, none⟩) C.vs.length C.vc) ∧ Bg C s w0 g w :=
  ⟨h.1.c0, he ▸ h.1.c1, h⟩
/-- What Bin leaves of a name and a number. -/
def BinOut (x : ByteArray) (n : Int) (g0 g : Nat) (w' : World) : Prop :=
  g0 < g ∧ Blk w' g 91 #[.int .i64 2, .int .i64 0, .string x, .int .i64 0, .slice none (Exs.nil).len 0, .int .i64 1, .int .i64 n, .string ⟨#[]⟩, .int .i64 0, .slice none (Exs.nil).len 0]
theorem Bg.bin2 (h : Bg C s w0 g w) (op : Int) (x : ByteArray) (n : Int) :
    Calls Tryd.prog 82 #[.int .i64 op, .agg #[.int .i64 2, .int .i64 0, .string x, .int .i64 0, .slice none 0 0], .agg #[.int .i64 1, .int .i64 n, .string ⟨#[]⟩, .int .i64 0, .slice none 0 0]] w fun e w' =>
      ∃ g', e = .returned (.agg #[.int .i64 4, .int .i64 0, .string ⟨#[]⟩, .int .i64 op, .slice (some ⟨g', 0, none⟩) 2 2]) ∧ BinOut x n g g' w' ∧ Bg C s w0 g w' :=
  (bin_any _ _ _ _ _ _ _ _ _ _ _ _ _ _ _ w).mono fun e w' ⟨g', he, hg, hb, hbel⟩ => ⟨g', he, ⟨Nat.lt_of_lt_of_le (by obtain ⟨_, _, ⟨_, _, _, _, _, hb⟩, _⟩ := h; exact hb.lt) hg, hb⟩, h.below hbel⟩
theorem Bg.lt (h : Bg C s w0 g w) : g < w.heap.size := by
  obtain ⟨_, _, ⟨_, _, _, _, _, hb⟩, _⟩ := h
  exact hb.lt
/-- A number that Next returns. -/
def In (n r : Int) : Prop := 0 ≤ r ∧ (r < n ∨ r = 0)
theorem cond_fin {w w4 : World} {r q : Int} {x : ByteArray} {g : Nat} (hr : In 4 r) (hq : In 8 q) (hx : Nm x) (hbo : BinOut x q w.heap.size g w4) (hb : Bg C s w w.heap.size w4) :
    ExPost C s 3 w (.returned (.agg #[.int .i64 4, .int .i64 0, .string ⟨#[]⟩, .int .i64 (IntKind.i64.wrap (11 + r)), .slice (some ⟨g, 0, none⟩) 2 2])) (Go.Proofs.YtbppfhlpielpcaaDoor.set5 w4 w.heap.size (.int .i64 4) (.int .i64 0) (.string ⟨#[]⟩) (.int .i64 (IntKind.i64.wrap (11 + r))) (.slice (some ⟨g, 0, none⟩) 2 2)) := by
  have hw : IntKind.i64.wrap (11 + r) = 11 + r := IntWalk.i64_in _ (by have := hr.1; have := hr.2; omega)
  rw [hw]
  have hq1 := hq.1
  have hq2 := hq.2
  have hr1 := hr.1
  have hr2 := hr.2
  exact (hb.fin (ht := 2) (bin_out ⟨by omega, by omega⟩ (nam_out _ 1 (by omega) _ x hx) (num_out _ 1 (by omega) _ q (by omega)) hbo.2 hbo.1)).more (by omega)
set_option maxRecDepth 100000 in
set_option maxHeartbeats 1000000 in
theorem cond_mk {w : World} (h : Mks C s w) : Calls Tryd.prog 69 #[.pointer (some ⟨C.M, 0, none⟩)] w fun e w' => ExPost C s 3 w e w' := by
  have c0 := h.c0
  have hMl := h.blk.lt
  have H0 := Lib.hid (show Bg C s w w.heap.size (w.alloc (.cells zEx 91)) from ⟨h.alloc _, (Gen.refl _ _ _ w).alloc _, ⟨_, _, _, _, _, Blk.new w 91 zEx⟩, h.base, Nat.le_refl _⟩)
  clear h
  go_enter Tryd.func69, Tryd.ntmps69
  go_wp2_with fail
  refine (H0.out.next 4 (by omega)).mono ?_
  rintro e w1 ⟨r, rfl, hr0, hr1, hb1⟩
  have BG := Lib.hid hb1
  clear hr1 hb1 c0 H0 hMl
  cases h3 : (r == 3)
  · clear hr0
    obtain ⟨vb, vf, ve, vrest⟩ := BG.out.1.vars.rd BG.out.1.nums.1 BG.out.1.nums.2.2.2.2.1
    have VE := Lib.hid ve
    obtain ⟨c0, c1, bg⟩ := BG.out.holds ve
    clear ve vrest BG
    go_wp2_with fail
    go_region_held3 (fun w' => w'.cell? ⟨C.M, 0, none⟩ = some (.pointer (some ⟨C.D, 0, none⟩)) ∧ w'.cell? ⟨C.M, 1, none⟩ = some (.slice (some ⟨vb, vf, none⟩) C.vs.length C.vc) ∧ Bg C s w w.heap.size w')
      (first | (with_reducible exact Bg.holds (by with_reducible assumption) VE.out) | (with_reducible exact Bg.holds (Bg.drew (by with_reducible assumption)) VE.out) | (with_reducible exact Bg.holds (Bg.set5 (by with_reducible assumption) _ _ _ _ _) VE.out) | (go_split_ands; with_reducible exact Bg.holds (by with_reducible assumption) VE.out))
      (first
        | (go_at_call 82; go_split_ands; rename_i hBg; refine (hBg.bin2 _ _ _).mono ?_; rintro e w4 ⟨g, rfl, hbo, hb⟩; obtain ⟨d0, d1, d2, d3, d4, ⟨r0, r1, r2, r3, r4⟩, f0, f1, f2, f3, f4⟩ := hb.five)
        | (go_at_call 67; go_split_ands; rename_i hBg; refine (hBg.name VE.out).mono ?_; rintro e w4 ⟨x, rfl, hx, hb⟩)
        | (go_at_call 84; go_split_ands; rename_i hBg; refine (hBg.nam _).mono ?_; rintro e w4 ⟨rfl, hb⟩)
        | (go_at_call 81; go_split_ands; rename_i hBg; refine (hBg.num _).mono ?_; rintro e w4 ⟨rfl, hb⟩)
        | (go_at_call 30; go_split_ands; rename_i hBg; refine (hBg.next _ (by omega)).mono ?_; rintro e w4 ⟨r, rfl, hr0, hr1, hb⟩; have hIn : In _ r := ⟨hr0, hr1⟩; clear hr0 hr1))
    go_wp2_with fail
    exact bodyPost_ret (v := .agg #[.int .i64 4, .int .i64 0, .string ⟨#[]⟩, .int .i64 _, .slice (some ⟨g, 0, none⟩) 2 2]) (by simp [results, Tryd.results69, go_sem, r0, r1, r2, r3, r4]) rfl (cond_fin (by assumption) (by assumption) hx hbo hb)
  · have hr : r = 3 := by simpa using h3
    subst hr
    clear h3 hr0
    go_wp2_with fail
    refine (expr2 BG.out.1).mono ?_
    rintro e w2 ⟨k, n, x, o, a, A, c, rfl, he, hm, hg⟩
    have hb2 := BG.out.step hm hg
    have z1 : w.heap.size < w1.heap.size := BG.out.lt
    have HE := Lib.hid (show ExOut (w.heap.size + 1) 3 w2 k n x o a A c from ⟨he.1, he.2.1, he.2.2.1, he.2.2.2.1, he.2.2.2.2.keep (Nat.le_refl _) (fun b hb _ => ⟨⟨by have := hb.1; omega, hb.2⟩, fun _ => rfl⟩)⟩)
    obtain ⟨d0, d1, d2, d3, d4, ⟨r0, r1, r2, r3, r4⟩, f0, f1, f2, f3, f4⟩ := hb2.five
    have HB := Lib.hid hb2
    clear he hm hg hb2 BG
    go_wp2_with fail
    exact bodyPost_ret (v := .agg #[.int .i64 k, .int .i64 n, .string x, .int .i64 o, .slice A a.len c]) (by simp [results, Tryd.results69, go_sem, r0, r1, r2, r3, r4]) rfl (HB.out.fin HE.out)
end
end Go.Proofs.YtbppfhlpielpcaaDoor
namespace Go.Proofs.YtbppfhlpielpcaaDoor
open Go.RowKit
set_option linter.unusedVariables false
section
variable {C : Cx} {s : Ms}
theorem Mks.loopAt {w : World} (h : Mks C s w) {k : Nat} (hk : k < s.ls.length) : ∃ g, s.la = some ⟨g, 0, none⟩ ∧ w.cell? ⟨g, k, none⟩ = some (.string (s.ls.getD k ⟨#[]⟩)) := by
  obtain ⟨g, cap, e, hB, hl⟩ := own_form h.row (by omega)
  injection e with e1 e2 e3
  have hr := h.row
  rw [e1] at hr
  have hc := hr.cellAt k (by omega)
  rw [List.getElem?_map, List.getElem?_eq_getElem hk] at hc
  exact ⟨g, e1, by rw [hc, List.getD_eq_getElem?_getD, List.getElem?_eq_getElem hk]; rfl⟩
set_option maxRecDepth 100000 in
set_option maxHeartbeats 1000000 in
theorem target_mk {w : World} (h : Mks C s w) : Calls Tryd.prog 71 #[.pointer (some ⟨C.M, 0, none⟩)] w fun e w' => ∃ x, e = .returned (.string x) ∧ Nm x ∧ Mks C s w' ∧ Gen C.D C.M C.B w w' := by
  obtain ⟨vb, vf, ve, vc, vB, vlt, vD, vM, vR⟩ := h.vars.rd h.nums.1 h.nums.2.2.2.2.1
  have c1 := h.c1
  rw [ve] at c1
  have VN := Lib.hid (name_mk h vb vf C.vs.length C.vc h.nums.1 (by have := h.nums.2.1; omega) vlt vD vR)
  have VE := Lib.hid ve
  clear ve vc vB vlt vD vM vR h
  go_enter Tryd.func71, Tryd.ntmps71
  go_wp2_with fail
  refine VN.out.mono ?_
  rintro e w1 ⟨x, rfl, hx, hm1, hg1⟩
  have HX := Lib.hid hx
  have H1 := Lib.hid hm1
  have G1 := Lib.hid hg1
  have c2 := hm1.c2
  have c1 := hm1.c1
  rw [VE.out] at c1
  have hn5 : C.vs.length ≤ 5 := hm1.nums.2.1
  have hn0 : 0 < C.vs.length := hm1.nums.1
  have hl2 : s.ls.length ≤ 2 := hm1.lims.1
  obtain ⟨vb', vf', ve', vc', vB', vlt', vD', vM', vR'⟩ := hm1.vars.rd hm1.nums.1 hm1.nums.2.2.2.2.1
  obtain ⟨y, hy, hNy⟩ := vR' (C.vs.length - 1) (by omega)
  have ev : vb' = vb ∧ vf' = vf := by have := VE.out; rw [ve'] at this; injection this with this; injection this with e1 e2; exact ⟨e1, e2⟩
  obtain ⟨rfl, rfl⟩ := ev
  have HY := Lib.hid hNy
  clear hx hm1 hg1 VN ve' vc' vB' vlt' vD' vM' vR' hNy
  go_wp2
  go_loop [4] (fun i => ∃ k : Nat, k ≤ s.ls.length ∧ i = .int .i64 k) (fun i => s.ls.length - (intOf i).toNat)
  case atStart => exact ⟨0, Nat.zero_le _, rfl⟩
  case round =>
    obtain ⟨k, hk, rfl⟩ := hrel
    by_cases hlt : k < s.ls.length
    · obtain ⟨g, hg, hc⟩ := H1.out.loopAt hlt
      rw [hg] at c2
      clear hg
      generalize s.ls.getD k ⟨#[]⟩ = z at *
      have hlt' : (k : Int) < s.ls.length := by omega
      cases heq : (z.toList == x.toList)
      · go_wp2
        go_round
        case rel => exact ⟨k + 1, by omega, by go_num⟩
        case measure => simp [intOf]; omega
      · have e0 : IntKind.i64.wrap ((C.vs.length : Int) - 1) = (C.vs.length : Int) - 1 := IntWalk.i64_in _ (by omega)
        have e1 : (0 : Int) ≤ (C.vs.length : Int) - 1 := by omega
        have e2 : ((C.vs.length : Int) - 1).toNat = C.vs.length - 1 := by omega
        have e3 : (C.vs.length : Int) - 1 < C.vs.length := by omega
        go_wp2_with fail
        go_quiet (fail)
        go_wp2
        go_ret
        exact ⟨y, rfl, HY.out, H1.out.drewN _, G1.out.trans (Gen.drewN _ _ _ _ _)⟩
    · go_wp2
      go_ret
      exact ⟨x, rfl, HX.out, H1.out, G1.out⟩
end
end Go.Proofs.YtbppfhlpielpcaaDoor
namespace Go.Proofs.YtbppfhlpielpcaaDoor
open Go.RowKit
set_option linter.unusedVariables false

def SNode (k : Int) (s : ByteArray) (i v : Exs) (m l : Int) (t e : Sts) : Prop :=
  (k = 1 ∧ Nm s ∧ i.len = 0 ∧ v.len = 1 ∧ m = 0 ∧ l = 0 ∧ t.len = 0 ∧ e.len = 0) ∨ (k = 2 ∧ Nm s ∧ i.len = 1 ∧ v.len = 1 ∧ m = 0 ∧ l = 0 ∧ t.len = 0 ∧ e.len = 0) ∨
  (k = 3 ∧ s = ⟨#[]⟩ ∧ i.len = 0 ∧ v.len = 1 ∧ m = 0 ∧ (1 ≤ l ∧ l ≤ 12)) ∨ (k = 4 ∧ s = ⟨#[]⟩ ∧ i.len = 0 ∧ v.len = 1 ∧ (0 ≤ m ∧ m ≤ 5) ∧ (1 ≤ l ∧ l ≤ 12) ∧ e.len = 0) ∨
  (k = 5 ∧ Nm s ∧ i.len = 0 ∧ v.len = 0 ∧ m = 0 ∧ l = 0 ∧ e.len = 0)
namespace Sts
def Good : Sts → Prop
  | nil => True
  | cons k s i v m l t e r => SNode k s i v m l t e ∧ (i.Good ∧ i.height ≤ 3) ∧ (v.Good ∧ v.height ≤ 3) ∧ (t.Good ∧ t.len ≤ 12) ∧ (e.Good ∧ e.len ≤ 12) ∧ r.Good
theorem Good.wf : ∀ {t : Sts}, t.Good → t.Wf
  | nil, _ => trivial
  | cons k s i v m l t e r, ⟨hn, hi, hv, ht, he, hr⟩ => by
    have h12 : (12 : Nat) ≤ maxLen := by unfold maxLen; omega
    have hs : s.size ≤ maxLen ∧ (-9223372036854775808 ≤ k ∧ k ≤ 9223372036854775807) ∧ (-9223372036854775808 ≤ m ∧ m ≤ 9223372036854775807) ∧ (-9223372036854775808 ≤ l ∧ l ≤ 9223372036854775807) ∧ i.len ≤ 1 ∧ v.len ≤ 1 := by
      rcases hn with ⟨rfl, h, h1, h2, rfl, rfl, _⟩ | ⟨rfl, h, h1, h2, rfl, rfl, _⟩ | ⟨rfl, rfl, h1, h2, rfl, h3⟩ | ⟨rfl, rfl, h1, h2, h3, h4, _⟩ | ⟨rfl, h, h1, h2, rfl, rfl, _⟩
      · have := h.size; exact ⟨by omega, by omega, by omega, by omega, by omega, by omega⟩
      · have := h.size; exact ⟨by omega, by omega, by omega, by omega, by omega, by omega⟩
      · exact ⟨by unfold maxLen; decide, by omega, by omega, by omega, by omega, by omega⟩
      · exact ⟨by unfold maxLen; decide, by omega, by omega, by omega, by omega, by omega⟩
      · have := h.size; exact ⟨by omega, by omega, by omega, by omega, by omega, by omega⟩
    obtain ⟨q1, q2, q3, q4, q5, q6⟩ := hs
    exact ⟨q2, q1, ⟨by omega, hi.1.wf⟩, ⟨by omega, hv.1.wf⟩, q3, q4, ⟨by omega, Good.wf ht.1⟩, ⟨by omega, Good.wf he.1⟩, Good.wf hr⟩
/-- One list behind another. -/
def app : Sts → Sts → Sts
  | nil, u => u
  | cons k s i v m l t e r, u => cons k s i v m l t e (r.app u)
theorem app_len : ∀ (t u : Sts), (t.app u).len = t.len + u.len
  | nil, u => by simp [app, len]
  | cons _ _ _ _ _ _ _ _ r, u => by simp only [app, len, app_len r u]; omega
theorem Good.app : ∀ {t u : Sts}, t.Good → u.Good → (t.app u).Good
  | nil, _, _, hu => hu
  | cons _ _ _ _ _ _ _ _ r, _, ⟨h1, h2, h3, h4, h5, hr⟩, hu => ⟨h1, h2, h3, h4, h5, Good.app hr hu⟩
theorem app_height : ∀ (t u : Sts) (h : Nat), t.height ≤ h → u.height ≤ h → (t.app u).height ≤ h
  | nil, _, _, _, hu => hu
  | cons _ _ _ _ _ _ _ _ r, u, h, ht, hu => by
    simp only [height] at ht
    have := app_height r u h (by omega) hu
    simp only [app, height]; omega
/-- The cells of a list, the trees below them in blocks of S. -/
def Rows (w : World) (S : Nat → Prop) : Sts → List Value → Prop
  | nil, xs => xs = []
  | cons k s i v m l t e r, xs => ∃ B2 c2 B3 c3 B6 c6 B7 c7 ys, xs = [.int .i64 k, .string s, .slice B2 i.len c2, .slice B3 v.len c3, .int .i64 m, .int .i64 l, .slice B6 t.len c6, .slice B7 e.len c7] ++ ys ∧
      (i.len ≤ c2 ∧ i.At w S B2) ∧ (v.len ≤ c3 ∧ v.At w S B3) ∧ (t.len ≤ c6 ∧ t.At w S B6) ∧ (e.len ≤ c7 ∧ e.At w S B7) ∧ r.Rows w S ys
theorem Rows.len {w : World} {S : Nat → Prop} : ∀ {t : Sts} {xs : List Value}, t.Rows w S xs → xs.length = t.len * 8
  | nil, _, h => by rw [h]; rfl
  | cons .., _, ⟨_, _, _, _, _, _, _, _, ys, e, _, _, _, _, hr⟩ => by
    have := Rows.len hr
    rw [e]; simp only [List.length_append, List.length_cons, List.length_nil, Sts.len]; omega
theorem Rows.one {w : World} {S : Nat → Prop} : ∀ {t : Sts} {xs : List Value}, t.Rows w S xs → ∀ u ∈ xs, u.oneCell' = true
  | nil, _, h, u, hu => by rw [h] at hu; cases hu
  | cons .., _, ⟨_, _, _, _, _, _, _, _, ys, e, _, _, _, _, hr⟩, u, hu => by
    rw [e] at hu
    rcases List.mem_append.1 hu with hu | hu
    · simp only [List.mem_cons, List.not_mem_nil, or_false] at hu
      rcases hu with rfl | rfl | rfl | rfl | rfl | rfl | rfl | rfl <;> rfl
    · exact Rows.one hr u hu
theorem Rows.keep {w w' : World} {S S' : Nat → Prop} (hsz : w.heap.size ≤ w'.heap.size) (hS : ∀ b, S b → b < w.heap.size → S' b ∧ ∀ f, w'.cell? ⟨b, f, none⟩ = w.cell? ⟨b, f, none⟩) : ∀ {t : Sts} {xs : List Value}, t.Rows w S xs → t.Rows w' S' xs
  | nil, _, h => h
  | cons .., _, ⟨B2, c2, B3, c3, B6, c6, B7, c7, ys, e, hi, hv, ht, he, hr⟩ =>
    ⟨B2, c2, B3, c3, B6, c6, B7, c7, ys, e, ⟨hi.1, hi.2.keep hsz hS⟩, ⟨hv.1, hv.2.keep hsz hS⟩, ⟨ht.1, ht.2.keep hsz hS⟩, ⟨he.1, he.2.keep hsz hS⟩, Rows.keep hsz hS hr⟩
theorem Rows.app {w : World} {S : Nat → Prop} : ∀ {t u : Sts} {xs ys : List Value}, t.Rows w S xs → u.Rows w S ys → (t.app u).Rows w S (xs ++ ys)
  | nil, _, _, _, h, hu => by rw [h]; exact hu
  | cons .., _, _, _, ⟨B2, c2, B3, c3, B6, c6, B7, c7, zs, e, hi, hv, ht, he, hr⟩, hu => ⟨B2, c2, B3, c3, B6, c6, B7, c7, _, by rw [e, List.append_assoc], hi, hv, ht, he, Rows.app hr hu⟩
/-- Cells at an address, and the trees below: the list lies there. -/
theorem Rows.at {w : World} {S : Nat → Prop} : ∀ {t : Sts} {xs : List Value} {b f : Nat}, t.Rows w S xs → S b → b < w.heap.size → (∀ j u, xs[j]? = some u → w.cell? ⟨b, f + j, none⟩ = some u) → t.At w S (some ⟨b, f, none⟩)
  | nil, _, _, _, _, _, _, _ => trivial
  | cons .., xs, b, f, ⟨B2, c2, B3, c3, B6, c6, B7, c7, ys, e, hi, hv, ht, he, hr⟩, hS, hlt, hc => by
    subst e
    refine ⟨b, f, rfl, hS, hlt, hc 0 _ rfl, hc 1 _ rfl, ⟨B2, c2, hc 2 _ rfl, hi⟩, ⟨B3, c3, hc 3 _ rfl, hv⟩, hc 4 _ rfl, hc 5 _ rfl, ⟨B6, c6, hc 6 _ rfl, ht⟩, ⟨B7, c7, hc 7 _ rfl, he⟩, Rows.at hr hS hlt fun j u hu => ?_⟩
    have := hc (j + 8) u (by rw [List.getElem?_append_right (by simp)]; simpa using hu)
    rw [show f + 8 + j = f + (j + 8) by omega]
    exact this
end Sts

/-- A list of statements that lies in a row of its own, from block m on, and in other new blocks. -/
def StOut (m h : Nat) (w : World) (t : Sts) (v : Value) : Prop :=
  ∃ xs, w.ownsRow m 88 8 v t.len xs ∧ t.Rows w (fun b => Fr m w b ∧ some b ≠ v.ownBlock) xs ∧ t.Good ∧ t.height ≤ h
theorem StOut.at {m h : Nat} {w : World} {t : Sts} {v : Value} (ho : StOut m h w t v) : ∃ A c, v = .slice A t.len c ∧ t.len ≤ c ∧ t.At w (Fr m w) A := by
  obtain ⟨xs, h1, h2, _, _⟩ := ho
  have h3 : t.Rows w (Fr m w) xs := h2.keep (Nat.le_refl _) fun b hb _ => ⟨hb.1, fun _ => rfl⟩
  have hlt := h1.lt
  have hcs := fun g => h1.cells (g := g)
  rcases h1.2 with ⟨rfl, h0⟩ | ⟨g, cap, cur, rfl, hB, hg, hcap, _⟩
  · refine ⟨none, 0, by rw [h0], by omega, ?_⟩
    cases t with
    | nil => trivial
    | cons => simp [Sts.len] at h0
  · refine ⟨_, cap, rfl, hcap, h3.at (b := g) (f := 0) ⟨hB, .inr (by simp [tagOf, hg])⟩ (hlt g rfl).2 fun j u hu => ?_⟩
    have := hcs g rfl j u hu
    rw [add_at] at this
    exact this
/-- What a statement's list is good for as the source of an append. -/
theorem StOut.src {m h : Nat} {w : World} {t : Sts} {v : Value} (ho : StOut m h w t v) (hpos : 0 < t.len) : ∃ g c xs, v = .slice (some ⟨g, 0, none⟩) t.len c ∧ m ≤ g ∧ g < w.heap.size ∧ Src w 8 (some ⟨g, 0, none⟩) t.len c xs ∧ t.Rows w (Fr m w) xs := by
  obtain ⟨xs, h1, h2, _, _⟩ := ho
  have h3 : t.Rows w (Fr m w) xs := h2.keep (Nat.le_refl _) fun b hb _ => ⟨hb.1, fun _ => rfl⟩
  have hlt := h1.lt
  have hcs := fun g => h1.cells (g := g)
  rcases h1.2 with ⟨rfl, h0⟩ | ⟨g, cap, cur, rfl, hB, hg, hcap, _⟩
  · omega
  · exact ⟨g, cap, xs, rfl, hB, (hlt g rfl).2, ⟨h3.len, .inr ⟨_, rfl, hcs g rfl⟩⟩, h3⟩
section
variable {C : Cx} {s : Ms} {w w' : World}
theorem own_keep {B n size : Nat} {e : TypeId} {v : Value} {xs : List Value} (h : w.ownsRow B e size v n xs) (hs : w.heap.size ≤ w'.heap.size) (hk : ∀ g, v.ownBlock = some g → w'.heap[g]? = w.heap[g]?) : w'.ownsRow B e size v n xs := by
  obtain ⟨h1, h2⟩ := h
  refine ⟨h1, ?_⟩
  rcases h2 with h2 | ⟨g, cap, cur, rfl, hB, hg, h3⟩
  · exact .inl h2
  · exact .inr ⟨g, cap, cur, rfl, hB, (hk g rfl).trans hg, h3⟩
theorem own_tag {B n size : Nat} {e : TypeId} {v : Value} {xs : List Value} (h : w.ownsRow B e size v n xs) {g : Nat} (hg : v.ownBlock = some g) : tagOf w g = some e ∧ g < w.heap.size ∧ B ≤ g := by
  have hl := h.lt g hg
  rcases h.2 with ⟨rfl, _⟩ | ⟨g', cap, cur, rfl, hB, hh, _⟩
  · simp [Value.ownBlock] at hg
  · have : g' = g := by simpa [Value.ownBlock] using hg
    subst this
    exact ⟨by simp [tagOf, hh], hl.2, hl.1⟩
/-- A list of statements is kept where blocks of trees are. -/
theorem StOut.keep {m m' h : Nat} {t : Sts} {v : Value} (ho : StOut m h w t v) (hm : m' ≤ m) (hs : w.heap.size ≤ w'.heap.size) (hk : ∀ b, m ≤ b → Tr w b → b < w.heap.size → w'.heap[b]? = w.heap[b]?) : StOut m' h w' t v := by
  obtain ⟨xs, h1, h2, h3, h4⟩ := ho
  refine ⟨xs, ?_, h2.keep hs fun b hb hl => ?_, h3, h4⟩
  · have h5 := own_keep (w' := w') h1 hs fun g hg => by
      obtain ⟨q1, q2, q3⟩ := own_tag h1 hg
      exact hk g q3 (.inr q1) q2
    obtain ⟨e1, e2⟩ := h5
    exact ⟨e1, by rcases e2 with e2 | ⟨g, cap, cur, q1, q2, q3⟩; exact .inl e2; exact .inr ⟨g, cap, cur, q1, by omega, q3⟩⟩
  · have e := hk b hb.1.1 hb.1.2 hl
    exact ⟨⟨⟨by have := hb.1.1; omega, by unfold Tr; rw [tag_same e]; exact hb.1.2⟩, hb.2⟩, fun f => World.cell?_of_block e⟩
theorem StOut.step (h : Mks C s w) (hg : Gen C.D C.M C.B w w') {m m' ht : Nat} {t : Sts} {v : Value} (hm : m' ≤ m) (ho : StOut m ht w t v) : StOut m' ht w' t v :=
  ho.keep hm hg.size fun b _ hb hl => hg.tr h.dTag h.mTag hb hl
theorem StOut.below {m m' ht : Nat} {t : Sts} {v : Value} (ho : StOut m ht w t v) (hm : m' ≤ m) (hb : Below w.heap.size w w') : StOut m' ht w' t v :=
  ho.keep hm hb.size fun b _ _ hl => hb.block b hl
theorem StOut.set {g i : Nat} {u : Value} {m m' ht : Nat} {t : Sts} {v : Value} (ho : StOut m ht w t v) (hm : m' ≤ m) (hg : g < m ∨ ¬ Tr w g) : StOut m' ht (w.setCell ⟨g, i, none⟩ u) t v :=
  ho.keep hm (by simp) fun b hb ht hl => Below.heap_setCell w _ u b (by
    rintro rfl
    rcases hg with hg | hg
    · exact absurd hb (Nat.not_le_of_lt hg)
    · exact hg ht)
theorem StOut.nil (m h : Nat) (w : World) : StOut m h w .nil (.slice none 0 0) := ⟨[], World.ownsRow_nil _ _ _ _, rfl, trivial, by simp [Sts.height]⟩
/-- Behind an append. -/
theorem StOut.append {m h : Nat} {t u : Sts} {v v' : Value} {xs ys : List Value} {w1 : World} (h1 : w.ownsRow m 88 8 v t.len xs) (h2 : t.Rows w (fun b => Fr m w b ∧ some b ≠ v.ownBlock) xs) (h3 : t.Good) (h4 : t.height ≤ h)
    (hu : u.Rows w (fun b => Fr m w b ∧ some b ≠ v.ownBlock) ys) (hug : u.Good) (huh : u.height ≤ h) (hown : w1.ownsRow m 88 8 v' (t.len + u.len) (xs ++ ys)) (hgr : w.grownBy w1 v.ownBlock) (hv : v'.ownBlock = v.ownBlock ∨ v'.ownBlock = some w.heap.size ∨ v'.ownBlock = none) : StOut m h w1 (t.app u) v' := by
  have hk : ∀ b, (Fr m w b ∧ some b ≠ v.ownBlock) → b < w.heap.size → (Fr m w1 b ∧ some b ≠ v'.ownBlock) ∧ ∀ f, w1.cell? ⟨b, f, none⟩ = w.cell? ⟨b, f, none⟩ := fun b hb hl => by
    have e := hgr.block b hl hb.2
    refine ⟨⟨⟨hb.1.1, by unfold Tr; rw [tag_same e]; exact hb.1.2⟩, ?_⟩, fun f => World.cell?_of_block e⟩
    rcases hv with hv | hv | hv
    · rw [hv]; exact hb.2
    · rw [hv]; intro e; injection e with e; omega
    · rw [hv]; intro e; cases e
  exact ⟨xs ++ ys, by rw [Sts.app_len]; exact hown, (h2.keep hgr.size hk).app (hu.keep hgr.size hk), h3.app hug, Sts.app_height _ _ _ h4 huh⟩
end
end Go.Proofs.YtbppfhlpielpcaaDoor
namespace Go.Proofs.YtbppfhlpielpcaaDoor
open Go.RowKit
set_option linter.unusedVariables false
/-- What blocks and statements leave of the maker. -/
def Alk (s s' : Ms) : Prop := s'.ls = s.ls ∧ s'.held = s.held ∧ s'.inl = s.inl
theorem Alk.refl (s : Ms) : Alk s s := ⟨rfl, rfl, rfl⟩
theorem Alk.trans {a b c : Ms} (h : Alk a b) (k : Alk b c) : Alk a c := ⟨k.1.trans h.1, k.2.1.trans h.2.1, k.2.2.trans h.2.2⟩
def StPost (C : Cx) (s : Ms) (h lo hi : Nat) (w : World) (e : Ending) (w' : World) : Prop :=
  ∃ (t : Sts) (v : Value) (s' : Ms), e = .returned v ∧ StOut w.heap.size h w' t v ∧ lo ≤ t.len ∧ t.len ≤ hi ∧ Mks C s' w' ∧ Gen C.D C.M C.B w w' ∧ Alk s s'
def StmtC (C : Cx) (d : Int) (h : Nat) : Prop := ∀ (s : Ms) (w : World), Mks C s w → Calls Tryd.prog 56 #[.pointer (some ⟨C.M, 0, none⟩), .int .i64 d] w fun e w' => StPost C s h 1 2 w e w'
def BlockC (C : Cx) (d : Int) (most h : Nat) : Prop := ∀ (s : Ms) (w : World), Mks C s w → Calls Tryd.prog 45 #[.pointer (some ⟨C.M, 0, none⟩), .int .i64 d, .int .i64 most] w fun e w' => StPost C s h 0 (2 * most) w e w'
section
variable {C : Cx} {s : Ms} {w : World}
/-- A store into the maker's own block. -/
theorem Mks.upd (h : Mks C s w) (i : Nat) (u : Value) (s' : Ms) (hcs : (#[.pointer (some ⟨C.D, 0, none⟩), .slice C.va C.vs.length C.vc, .slice s.la s.ls.length s.lc, .slice C.aa C.ars.length C.ac, .slice C.sa C.ss.length C.sc, .string s.held, .int .i64 s.lab, .int .i64 s.stm, .int .i64 s.inl] : Array Value).setIfInBounds i u =
      #[.pointer (some ⟨C.D, 0, none⟩), .slice C.va C.vs.length C.vc, .slice s'.la s'.ls.length s'.lc, .slice C.aa C.ars.length C.ac, .slice C.sa C.ss.length C.sc, .string s'.held, .int .i64 s'.lab, .int .i64 s'.stm, .int .i64 s'.inl])
    (hl : s'.la = s.la ∧ s'.lc = s.lc ∧ s'.ls = s.ls)
    (hlim : (0 ≤ s'.lab ∧ s'.lab ≤ 12) ∧ (0 ≤ s'.stm ∧ s'.stm ≤ 100) ∧ (0 ≤ s'.inl ∧ s'.inl ≤ 2) ∧ (s'.ls.length : Int) ≤ s'.inl ∧ (s'.held = ⟨#[]⟩ ∨ Nm s'.held)) : Mks C s' (w.setCell ⟨C.M, i, none⟩ u) := by
  have hn := h.nums
  have hk : ∀ b, b ≠ C.M → (w.setCell ⟨C.M, i, none⟩ u).heap[b]? = w.heap[b]? := fun b hb => Below.heap_setCell w _ u b hb
  have hDM : C.D < C.M := hn.2.2.2.2.2.2.2.2.2
  obtain ⟨q1, q2, q3⟩ := hl
  refine ⟨?_, ?_, h.vars.keep (by simp) fun b _ _ _ hb => hk b hb, h.arrs.keep (by simp) fun b _ _ _ hb => hk b hb, h.shrd.keep (by simp) fun b _ _ _ hb => hk b hb, ?_, hn, by simpa using h.base, ?_⟩
  · exact h.deck.keep (by simp) (hk _ (by omega)) fun b hb => hk b (by omega)
  · have := h.blk.set i u
    rw [hcs] at this
    exact this
  · rw [q1, q2, q3]
    refine own_keep h.row (by simp) fun g hg => hk g ?_
    have := own_tag h.row hg
    have h2 := h.blk.tag
    rintro rfl
    rw [h2] at this
    exact absurd this.1 (by decide)
  · rw [q3]
    exact ⟨h.lims.1, h.lims.2.1, by rw [q3] at hlim; exact hlim⟩
/-- An append onto a row of statements is no step of the maker's. -/
theorem mk_grown {w w' : World} {m n size : Nat} {v : Value} {xs : List Value} (h : Mks C s w) (hg : w.grownBy w' v.ownBlock) (ho : w.ownsRow m 88 size v n xs) (hB : C.B ≤ m) : Mks C s w' := by
  have hn := h.nums
  have hb := h.base
  have hk : ∀ b, b < w.heap.size → b < C.B → w'.heap[b]? = w.heap[b]? := fun b hl hb => hg.block b hl fun e => by have := (ho.lt b e.symm).1; omega
  refine ⟨h.deck.keep hg.size (hk _ (by omega) (by omega)) fun b hb => hk b (by omega) (by omega), (hk _ (by omega) (by omega)).trans h.blk, h.vars.keep hg.size fun b hl hB _ _ => hk b hl hB, h.arrs.keep hg.size fun b hl hB _ _ => hk b hl hB, h.shrd.keep hg.size fun b hl hB _ _ => hk b hl hB, ?_, hn, Nat.le_trans hb hg.size, h.lims⟩
  refine own_keep h.row hg.size fun g e => ?_
  obtain ⟨t1, t2, _⟩ := own_tag h.row e
  refine hg.block g t2 fun e2 => ?_
  obtain ⟨t3, _, _⟩ := own_tag ho e2.symm
  rw [t1] at t3
  exact absurd t3 (by decide)
theorem gen_grown {D M B : Nat} {w w1 w2 : World} {row : Option Nat} (h : Gen D M B w w1) (hg : w1.grownBy w2 row) (hr : ∀ q, row = some q → w.heap.size ≤ q) : Gen D M B w w2 :=
  ⟨hg.os.trans h.os, hg.tape.trans h.tape, hg.output.trans h.output, Nat.le_trans h.size hg.size, fun b hb hD hM ht => by
    rw [hg.block b (Nat.lt_of_lt_of_le hb h.size) (fun e => by have := hr b e.symm; omega)]
    exact h.block b hb hD hM ht⟩
set_option maxRecDepth 100000 in
set_option maxHeartbeats 1000000 in
theorem block_any {d : Int} {h : Nat} (most : Nat) (hm : 1 ≤ most ∧ most ≤ 5) (hst : StmtC C d h) : BlockC C d most h := by
  intro s w hk0
  have HST := Lib.hid hst
  have c0 := hk0.c0
  have H := Lib.hid hk0
  have HBase := Lib.hid hk0.base
  obtain ⟨i0, hi0, hz0, hz1, hz2⟩ := info_parts Tryd.infoStmt
  have HI := Lib.hid (And.intro hi0 (And.intro hz0 (And.intro hz1 hz2)))
  clear hst hk0 hi0 hz0 hz1 hz2
  obtain ⟨m1, m5⟩ := hm
  go_enter Tryd.func45, Tryd.ntmps45
  go_wp2_with fail
  refine (next_mk H.out most (by omega)).mono ?_
  rintro e w1 ⟨r, rfl, hr0, hr1, hm1, hg1⟩
  have H1 := Lib.hid hm1
  have G1 := Lib.hid hg1
  obtain ⟨n, rfl⟩ := Int.eq_ofNat_of_zero_le hr0
  have hn : n + 1 ≤ most := by omega
  clear hr0 hr1 hm1 hg1 c0
  go_wp2_with fail
  go_loopw [7, 8] (fun v i wr => ∃ (k : Nat) (t : Sts) (s' : Ms), k ≤ most ∧ i = .int .i64 k ∧ t.len + 2 * k ≤ 2 * most ∧ w.heap.size ≤ wr.heap.size ∧
      Hid (StOut w.heap.size h wr t v ∧ Mks C s' wr ∧ Gen C.D C.M C.B w wr ∧ Alk s s')) (fun _ i _ => (intOf i).toNat)
  case atStart => exact ⟨n + 1, .nil, s, hn, by go_num, by simp only [Sts.len]; omega, G1.out.size, Lib.hid ⟨StOut.nil _ _ _, H1.out, G1.out, Alk.refl s⟩⟩
  case round =>
    clear H1 G1
    obtain ⟨k, t, s', hk, rfl, ht, hsz, hR⟩ := hrel
    have c7 := hR.out.2.1.c7
    have f7 := hR.out.2.1.blk.frozen 7
    have hlims := hR.out.2.1.lims
    have hl1 : 0 ≤ s'.stm := hlims.2.2.2.1.1
    have hl2 : s'.stm ≤ 100 := hlims.2.2.2.1.2
    clear hlims
    by_cases hgo : 0 < k ∧ 0 < s'.stm
    · obtain ⟨g0, g1⟩ := hgo
      have g0' : (0 : Int) < (k : Int) := by omega
      have hU := hR.out.2.1.upd 7 (.int .i64 (s'.stm - 1)) { s' with stm := s'.stm - 1 } rfl ⟨rfl, rfl, rfl⟩ ⟨hR.out.2.1.lims.2.2.1, by simp only; omega, hR.out.2.1.lims.2.2.2.2.1, hR.out.2.1.lims.2.2.2.2.2.1, hR.out.2.1.lims.2.2.2.2.2.2⟩
      have HU := Lib.hid hU
      have hGU := hR.out.2.2.1.set (p := ⟨C.M, 7, none⟩) (.inr (.inl rfl)) (.int .i64 (s'.stm - 1))
      have hOU := hR.out.1.set (i := 7) (g := C.M) (u := .int .i64 (s'.stm - 1)) (Nat.le_refl _) (.inr (by
        intro hT
        have h2 := hR.out.2.1.blk.tag
        rcases hT with hT | hT <;> rw [hT] at h2 <;> exact absurd h2 (by decide)))
      have HGU := Lib.hid hGU
      have HOU := Lib.hid hOU
      have hAl := Lib.hid hR.out.2.2.2
      clear hU hGU hOU
      go_wp2_with fail
      refine (HST.out _ _ HU.out).mono ?_
      rintro e w2 ⟨t2, v2, s3, rfl, ho2, hlo, hhi, hm2, hg2, ha2⟩
      obtain ⟨g, c, ys, rfl, hgm, hgl, hsrc, hrow⟩ := ho2.src (by omega)
      have HO := Lib.hid (HOU.out.step HU.out hg2 (Nat.le_refl _))
      have H2 := Lib.hid hm2
      have G2 := Lib.hid (HGU.out.trans hg2)
      have A2 := Lib.hid (hAl.out.trans ⟨ha2.1, ha2.2.1, ha2.2.2⟩)
      have O2 := Lib.hid ho2
      obtain ⟨xs, o1, o2, o3, o4⟩ := HO.out
      have HX := Lib.hid (And.intro o1 (And.intro o2 (And.intro o3 o4)))
      have HS := Lib.hid (And.intro hsrc hrow)
      have hsz2 : w.heap.size ≤ w2.heap.size := G2.out.size
      have hgw : wr.heap.size ≤ g := by simpa using hgm
      have hlt7 : ∀ q, u7.ownBlock = some q → q < wr.heap.size := fun q hq => by obtain ⟨_, z1, _⟩ := hR.out.1; exact (z1.lt q hq).2
      have HL7 := Lib.hid hlt7
      clear ho2 hm2 hg2 ha2 o1 o2 o3 o4 hsrc hrow HO hgm hlt7
      go_wp2_with (at_builtin; refine wpList_append_own_at _ rfl (.tmp 34) (.tmp 37) 64 rfl w.heap.size 88 i0 _ 8 136 Tryd.underlying64 HI.out.1 HI.out.2.1 HI.out.2.2.1 HI.out.2.2.2 rfl (by decide) u7 t.len xs rfl HX.out.1 ⟨g, 0, none⟩ t2.len c ys rfl HS.out.2.len (by have := HS.out.1.2; simpa using this) HS.out.2.one (by unfold maxLen; omega) (by omega) hsz2 ?_; intro v3 w3 hown3 hgrow3 _ hat3)
      have hOA := StOut.append HX.out.1 HX.out.2.1 HX.out.2.2.1 HX.out.2.2.2 (HS.out.2.keep (S' := fun b => Fr w.heap.size w2 b ∧ some b ≠ u7.ownBlock) (Nat.le_refl _) fun b hb _ => ⟨⟨⟨by have := hb.1; simp at this; omega, hb.2⟩, fun e => by have := HL7.out b e.symm; have := hb.1; simp at this; omega⟩, fun _ => rfl⟩)
        (by obtain ⟨_, _, _, z3, _⟩ := O2.out; exact z3) (by obtain ⟨_, _, _, _, z4⟩ := O2.out; exact z4) hown3 hgrow3 (by rcases hat3 with e | e; exact .inl e; exact .inr (.inl e))
      have hlt7' : ∀ q, u7.ownBlock = some q → w.heap.size ≤ q := fun q hq => (HX.out.1.lt q hq).1
      have hk3 : ∀ b, b < w2.heap.size → some b ≠ u7.ownBlock → w3.heap[b]? = w2.heap[b]? := hgrow3.block
      have HO3 := Lib.hid hOA
      have HM3 := Lib.hid (mk_grown H2.out hgrow3 HX.out.1 (Nat.le_trans (Nat.le_refl _) HBase.out))
      have HG3 := Lib.hid (gen_grown G2.out hgrow3 hlt7')
      have hz3 := hgrow3.size
      clear hOA hlt7' hk3 hown3 hgrow3 hat3
      go_wp2
      go_roundw
      case rel => exact ⟨k - 1, t.app t2, s3, by omega, by rw [show ((k - 1 : Nat) : Int) = (k : Int) - 1 by omega], by rw [Sts.app_len]; omega, by omega, Lib.hid ⟨HO3.out, HM3.out, HG3.out, A2.out⟩⟩
      case measure => simp [intOf]; omega
    · by_cases k0 : k = 0
      · subst k0
        go_wp2
        go_ret
        exact ⟨t, _, s', rfl, hR.out.1, Nat.zero_le _, by omega, hR.out.2.1, hR.out.2.2.1, hR.out.2.2.2⟩
      · have e : s'.stm = 0 := by omega
        have g0' : (0 : Int) < (k : Int) := by omega
        rw [e] at c7
        clear e hgo hl1 hl2
        go_wp2
        go_ret
        exact ⟨t, _, s', rfl, hR.out.1, Nat.zero_le _, by omega, hR.out.2.1, hR.out.2.2.1, hR.out.2.2.2⟩
end
end Go.Proofs.YtbppfhlpielpcaaDoor
