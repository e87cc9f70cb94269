/- The walk of the law TokenRaw: it answers true. -/
import Derived.Test.YtnhaenohmfhecaaDoorTkPieces
import Derived.Deep.RegionHeld3
import Derived.Lib.SmallJoins
namespace Go.Proofs.YtnhaenohmfhecaaDoor
open Go.RowKit Go.Maps Go.WideMaps Go.WideElems Go.ChangeShapes Go.WideShapes Go.Joins Tk
set_option linter.unusedVariables false

/-- A token that came in. -/
theorem open_tok {H : Type} {enc : TypeId × Value → H} {r : Reach} {W : World} {b0 : Nat} {v : Value} {d : DataW H} {p : List MemPlace} (hval : Value.okWide Tryd.prog W r b0 23 v)
    (h : DataW.Trod enc Tryd.prog W 0 (fun _ => true) true 23 v d p) : ∃ t : Tok, v = aggV t ∧ t.text.length ≤ maxLen := by
  obtain ⟨v0, v1, v2, v3, y0, y1, y2, y3, n, rfl, rfl, rfl, h0, h1, h2, h3⟩ := open_agg4 Tryd.underlying23 (by kernel_rfl) (by kernel_rfl) hval h
  obtain ⟨a, e0, _, _⟩ := DataW.trod_int Tryd.underlying3 h0
  obtain ⟨b, e1, _, _⟩ := DataW.trod_int Tryd.underlying3 h1
  obtain ⟨c, e2, _, _⟩ := DataW.trod_int Tryd.underlying3 h2
  obtain ⟨s, e3, _, hs⟩ := DataW.trod_string Tryd.underlying9 h3
  simp only [List.cons.injEq, and_true] at e0 e1 e2 e3
  subst e0; subst e1; subst e2; subst e3
  exact ⟨⟨a, b, c, bs s⟩, by unfold aggV; rw [mk_bs], by rw [bs_len]; exact hs⟩

def Bag (w : World) (v2 v3 : Value) (T : List Tok) (w' : World) : Prop :=
  w'.ownsRow 0 23 4 v2 T.length (rows T) ∧ w'.ownsRow 0 23 4 v3 T.length (rows T) ∧ Tab w' ∧ Below w.heap.size w w' ∧ w.heap.size < w'.heap.size
theorem Bag.below {w : World} {v2 v3 : Value} {T : List Tok} {a b : World} (h : Bag w v2 v3 T a) (hb : Below a.heap.size a b) : Bag w v2 v3 T b :=
  ⟨own_below h.1 hb, own_below h.2.1 hb, tab_below h.2.2.1 hb, h.2.2.2.1.trans (hb.mono h.2.2.2.1.size), by have := h.2.2.2.2; have := hb.size; omega⟩
theorem Bag.drew {w : World} {v2 v3 : Value} {T : List Tok} {a : World} (h : Bag w v2 v3 T a) : Bag w v2 v3 T a.drew := h.below (below_drewN _ a 1)
theorem Bag.cell {w : World} {v2 v3 : Value} {T : List Tok} {a b : World} (h : Bag w v2 v3 T a) (hb : Below a.heap.size a b) {o : Nat} {u : Value} (hc : a.cell? ⟨w.heap.size, o, none⟩ = some u) : b.cell? ⟨w.heap.size, o, none⟩ = some u :=
  (hb.cell (p := ⟨w.heap.size, o, none⟩) h.2.2.2.2).trans hc
theorem same_bag {w : World} {v2 v3 : Value} {T : List Tok} {a : World} (h : Bag w v2 v3 T a) (hm : T.length ≤ 8192) :
    Calls Tryd.prog 10 #[v2, v3, .bool true] a fun e w' => e = .returned (.bool true) ∧ Below a.heap.size a w' :=
  (same_any true 0 0 v2 v3 T T a h.1 h.2.1 (alike_refl _ _) (by unfold maxLen; omega)).mono fun e w' ⟨he, n, hw⟩ => ⟨he, by rw [hw]; exact below_drewN _ _ n⟩
set_option maxRecDepth 100000 in
set_option maxHeartbeats 4000000 in
theorem raw_law (s : ByteArray) (t : Tok) (w : World) (hs : s.size ≤ maxLen) (htx : t.text.length ≤ maxLen) (ht : Tab w) :
    Calls Tryd.prog 3 #[.string s, aggV t] w fun e w' => e = .returned (.bool true) ∧ Below w.heap.size w w' := by
  have HT := Lib.hid (fun o => tab_below ht ((Below.refl _ w).alloc (Nat.le_refl _) o))
  clear ht
  obtain ⟨kind, num, line, text⟩ := t
  by_cases hbig : 10000 < s.size
  · unfold aggV
    go_enter Tryd.func3, Tryd.ntmps3
    go_wp2_with fail
    refine (awake_any _ (HT.out _)).mono ?_
    rintro e w1 ⟨rfl, hb⟩
    have hb0 := below_in hb
    clear hb
    go_wp2
    go_ret
    exact ⟨rfl, hb0⟩
  · have hS := Lib.hid (scan_any s hs)
    have hR := Lib.hid (rscan_any s hs)
    have hN := Lib.hid (name_any s hs)
    have hN' := Lib.hid (rname_any s hs)
    have hM := Lib.hid (name_any (mk text) htx)
    have hM' := Lib.hid (rname_any (mk text) htx)
    have hW := Lib.hid (word_any ⟨kind, num, line, text⟩)
    have hW' := Lib.hid (rword_any ⟨kind, num, line, text⟩)
    unfold aggV at *
    go_enter Tryd.func3, Tryd.ntmps3
    go_wp2_with fail
    refine (hS.out _).mono ?_
    rintro e w2 ⟨⟨v2, rfl, hown2⟩, hb2⟩
    have HB2 := Lib.hid hb2
    have HO2 := Lib.hid hown2
    clear hb2 hown2
    go_wp2_with fail
    refine (hR.out _).mono ?_
    rintro e w3 ⟨⟨v3, rfl, hown3⟩, hb3⟩
    have hbag : Bag w v2 v3 (toks (bs s)) w3 := ⟨own_more (own_below HO2.out hb3) (Nat.zero_le _), own_more hown3 (Nat.zero_le _), tab_below (tab_below (HT.out _) HB2.out) hb3, (below_in HB2.out).trans (hb3.mono (by have := HB2.out.size; simp at this; omega)), by have := HB2.out.size; have := hb3.size; simp at *; omega⟩
    have hc : ∀ (o : Nat) (u : Value), (w.alloc (.cells #[.int .i64 kind, .int .i64 num, .int .i64 line, .string (mk text)] 23)).cell? ⟨w.heap.size, o, none⟩ = some u → w3.cell? ⟨w.heap.size, o, none⟩ = some u := fun o u h =>
      (hb3.cell (p := ⟨w.heap.size, o, none⟩) (by have := HB2.out.size; simp at this ⊢; omega)).trans ((HB2.out.cell (p := ⟨w.heap.size, o, none⟩) (by simp)).trans h)
    have c0 := hc 0 (.int .i64 kind) (by simp)
    have c1 := hc 1 (.int .i64 num) (by simp)
    have c2 := hc 2 (.int .i64 line) (by simp)
    have c3 := hc 3 (.string (mk text)) (by simp)
    have hmx := toks_max (bs s)
    clear hc hb3 hown3 hS hR HB2 HO2 HT
    generalize toks (bs s) = T at *
    go_wp2_with fail
    go_region_held3 (fun w' => w'.cell? ⟨w.heap.size, 0, none⟩ = some (.int .i64 kind) ∧ w'.cell? ⟨w.heap.size, 1, none⟩ = some (.int .i64 num) ∧ w'.cell? ⟨w.heap.size, 2, none⟩ = some (.int .i64 line) ∧ w'.cell? ⟨w.heap.size, 3, none⟩ = some (.string (mk text)) ∧ Bag w v2 v3 T w')
      (first | (go_split_ands; refine ⟨by go_keep, by go_keep, by go_keep, by go_keep, ?_⟩; first | assumption | exact Bag.drew (by assumption)) | (go_split_ands; exact ⟨Bag.cell (by assumption) hb (by assumption), Bag.cell (by assumption) hb (by assumption), Bag.cell (by assumption) hb (by assumption), Bag.cell (by assumption) hb (by assumption), Bag.below (by assumption) hb⟩))
      (first
        | (go_at_call 10; go_split_ands; rename_i hBg; refine (same_bag hBg (by omega)).mono ?_; rintro e w4 ⟨rfl, hb⟩)
        | (go_at_call 11; (first | (with_reducible refine (hN.out _).mono ?_) | (with_reducible refine (hM.out _).mono ?_)); rintro e w4 ⟨rfl, rfl⟩)
        | (go_at_call 12; (first | (with_reducible refine (hN'.out _).mono ?_) | (with_reducible refine (hM'.out _).mono ?_)); rintro e w4 ⟨rfl, rfl⟩)
        | (go_at_call 13; go_split_ands; rename_i hBg; refine (hW.out _ hBg.2.2.1).mono ?_; rintro e w4 ⟨rfl, hb⟩)
        | (go_at_call 14; refine (hW'.out _).mono ?_; rintro e w4 ⟨rfl, hb⟩)
        | (go_at_call 7; go_split_ands; rename_i hBg; refine (awake_any _ hBg.2.2.1).mono ?_; rintro e w4 ⟨rfl, hb⟩))
    go_wp2
    go_ret
    go_split_ands
    refine ⟨rfl, ?_⟩
    rename_i hBg
    exact hBg.2.2.2.1
end Go.Proofs.YtnhaenohmfhecaaDoor
