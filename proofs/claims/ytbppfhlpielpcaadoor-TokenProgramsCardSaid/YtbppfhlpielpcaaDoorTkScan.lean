/- Scan of package token: the tokens of a text. -/
import Derived.Test.YtbppfhlpielpcaaDoorTkSigns
import Derived.OwnWalk
namespace Go.Proofs.YtbppfhlpielpcaaDoor
open Go.RowKit Go.Maps Go.WideMaps Go.WideElems Tk
set_option linter.unusedVariables false
set_option maxRecDepth 100000

theorem grown_below {w w' : World} (h : Below w.heap.size w w') (row : Option Nat) : w.grownBy w' row := ⟨h.os, h.tape, h.output, h.size, fun k hk _ => h.block k hk⟩
theorem own_below {w w' : World} {base : Nat} {e : TypeId} {size n : Nat} {v : Value} {xs : List Value} (h : w.ownsRow base e size v n xs) (hb : Below w.heap.size w w') : w'.ownsRow base e size v n xs :=
  h.kept (grown_below hb none) (by cases v.ownBlock <;> simp)
theorem signed_below {w w' : World} {b n : Nat} {l : List (List UInt8)} (h : Signed w b n l) (hb : Below w.heap.size w w') : Signed w' b n l := h.kept (grown_below hb none) (by simp)
theorem Tryd.infoTok : (Tryd.prog.info? 44).map (fun i => (i.zero, i.size, i.bytes)) = some (some (.agg #[.int .i64 0, .int .i64 0, .int .i64 0, .string ⟨#[]⟩]), 4, 40) := by kernel_rfl
def rows (T : List Tok) : List Value := T.flatMap cells
theorem rows_snoc (T : List Tok) (t : Tok) : rows (T ++ [t]) = rows T ++ cells t := by simp [rows]
theorem news_cells (w : World) (t : Tok) (ty : TypeId) : ∀ j u, (cells t)[j]? = some u → (w.alloc (.cells #[.int .i64 t.kind, .int .i64 t.num, .int .i64 t.line, .string (mk t.text)] ty)).cell? ((⟨w.heap.size, 0, none⟩ : Addr).add j) = some u := by
  intro j u hj
  match j, hj with
  | 0, hj => simp [cells] at hj; subst hj; simp [Addr.add]
  | 1, hj => simp [cells] at hj; subst hj; simp [Addr.add]
  | 2, hj => simp [cells] at hj; subst hj; simp [Addr.add]
  | 3, hj => simp [cells] at hj; subst hj; simp [Addr.add]
  | n + 4, hj => simp [cells] at hj
theorem news_cells2 (w : World) (o : Obj) (t : Tok) (ty : TypeId) : ∀ j u, (cells t)[j]? = some u → ((w.alloc o).alloc (.cells #[.int .i64 t.kind, .int .i64 t.num, .int .i64 t.line, .string (mk t.text)] ty)).cell? ((⟨w.heap.size + 1, 0, none⟩ : Addr).add j) = some u := by
  have h := news_cells (w.alloc o) t ty
  rw [size_alloc] at h
  exact h
theorem step_ok {l : List UInt8} {k n j B : Nat} {T : List Tok} {t : Tok} {w wr w2 w3 : World} {o1 o2 : Obj} {v v' : Value}
    (hR : wr.ownsRow (B + 1) 44 4 v T.length (rows T) ∧ Signed wr B 21 known ∧ Below B w wr ∧ At l k T n) (hBw : B = w.heap.size) (h2 : Below wr.heap.size wr w2)
    (hk : k < l.length) (hs : sep l[k] = false) (hf : first (l.drop k) = some (t, j))
    (ho : w3.ownsRow (B + 1) 44 4 v' (T.length + 1) (rows T ++ cells { t with line := n })) (hg : ((w2.alloc o1).alloc o2).grownBy w3 v.ownBlock) :
    B < w3.heap.size ∧ (w3.ownsRow (B + 1) 44 4 v' (T ++ [{ t with line := (n : Int) }]).length (rows (T ++ [{ t with line := (n : Int) }])) ∧ Signed w3 B 21 known ∧ Below B w w3 ∧ At l (k + j) (T ++ [{ t with line := (n : Int) }]) n) := by
  obtain ⟨ho0, hsg, hb, hat⟩ := hR
  have hlt := hsg.lt
  have hs2 := signed_below hsg h2
  have hs3 := (hs2.alloc o1).alloc o2
  have hlt3 := hs3.lt
  have hn : some B ≠ v.ownBlock := by
    intro e
    have := (ho0.lt B e.symm).1
    omega
  have hb2 : Below B w ((w2.alloc o1).alloc o2) := ((hb.trans (h2.mono (by omega))).alloc (by have := h2.size; omega) _).alloc (by have := h2.size; simp; omega) _
  refine ⟨by have := hg.size; omega, ?_, hs3.kept hg hn, hb2.grown hg (by omega) (fun q hq => ?_), at_some hat hk hs hf⟩
  · rw [rows_snoc, List.length_append]; exact ho
  · have := (ho0.lt q (by first | exact hq | exact hq.symm)).1; omega
theorem cells_one (t : Tok) : ∀ u ∈ cells t, u.oneCell' = true := by
  intro u hu
  simp [cells] at hu
  rcases hu with rfl | rfl | rfl | rfl <;> rfl

/-- What the call of Scan leaves. -/
def Scanned (l : List UInt8) (B : Nat) (e : Ending) (w' : World) : Prop :=
  ∃ v, e = .returned (.tuple #[v, .int .i64 (ln l), .int .i64 (er l)]) ∧ w'.ownsRow B 44 4 v (toks l).length (rows (toks l))
theorem own_more {w : World} {b b' : Nat} {e : TypeId} {size n : Nat} {v : Value} {xs : List Value} (h : w.ownsRow b e size v n xs) (hb : b' ≤ b) : w.ownsRow b' e size v n xs := by
  refine ⟨h.1, ?_⟩
  rcases h.2 with h0 | ⟨g, cap, cur, h1, h2, h3⟩
  · exact .inl h0
  · exact .inr ⟨g, cap, cur, h1, by omega, h3⟩
theorem fin_ok {l : List UInt8} {k : Nat} {T : List Tok} {n : Int} {B : Nat} {w : World} {v : Value} (hl : l.length ≤ 8192) (h : At l k T n) (hk : l.length ≤ k) (ho : w.ownsRow (B + 1) 44 4 v T.length (rows T)) :
    Scanned l B (.returned (.tuple #[v, .int .i64 0, .int .i64 0])) w := by
  obtain ⟨h1, h2, h3⟩ := out_ok hl (at_end h hk)
  exact ⟨v, by rw [h2, h3], by rw [h1]; exact own_more ho (by omega)⟩
theorem fin_no {l : List UInt8} {k : Nat} {T : List Tok} {n : Int} {B : Nat} {w : World} (hl : l.length ≤ 8192) (h : At l k T n) (hk : k < l.length) (hs : sep l[k] = false) (hf : first (l.drop k) = none) :
    Scanned l B (.returned (.tuple #[.slice none 0 0, .int .i64 n, .int .i64 1])) w := by
  obtain ⟨h1, h2, h3⟩ := out_no hl (at_none h hk hs hf)
  exact ⟨_, by rw [h2, h3], by rw [h1]; exact World.ownsRow_nil _ _ _ _⟩
set_option maxHeartbeats 1000000 in
theorem scan_any (s : ByteArray) (hs : s.size ≤ maxLen) (w : World) :
    Calls Tryd.prog 10 #[.string s] w fun e w' => Scanned (bs s) w.heap.size e w' ∧ Below w.heap.size w w' := by
  unfold maxLen at hs
  have HL := Lib.hid (bs_len s)
  by_cases hbig : 8192 < s.size
  · have ho := out_long (l := bs s) (by rw [HL.out]; exact hbig)
    have HO := Lib.hid ho
    clear ho
    go_enter Tryd.func10, Tryd.ntmps10
    go_wp2
    go_ret3
    obtain ⟨h1, h2, h3⟩ := HO.out
    exact ⟨⟨_, by rw [h2, h3]; rfl, by rw [h1]; exact World.ownsRow_nil _ _ _ _⟩, Below.refl _ _⟩
  have hsm : s.size ≤ 8192 := by omega
  clear hbig
  obtain ⟨i0, hi0, hz0, hz1, hz2⟩ := info_parts Tryd.infoTok
  have HI := Lib.hid (And.intro hi0 (And.intro hz0 (And.intro hz1 hz2)))
  clear hi0 hz0 hz1 hz2
  go_enter Tryd.func10, Tryd.ntmps10
  go_wp2_with fail
  refine (signs_any _).mono ?_
  rintro e w1 ⟨rfl, hsg, hb1⟩
  have HB1 := Lib.hid (And.intro hsg hb1)
  have hlt1 : w.heap.size < w1.heap.size := hsg.lt
  clear hsg hb1
  go_wp2
  go_loopw [6, 7, 8] (fun m v i wr => ∃ (k n : Nat) (T : List Tok), k ≤ s.size ∧ i = .int .i64 k ∧ m = .int .i64 n ∧ n ≤ k + 1 ∧ T.length ≤ k ∧ w.heap.size < wr.heap.size ∧
      Hid (wr.ownsRow (w.heap.size + 1) 44 4 v T.length (rows T) ∧ Signed wr w.heap.size 21 known ∧ Below w.heap.size w wr ∧ At (bs s) k T n)) (fun _ _ i _ => s.size - (intOf i).toNat)
  case atStart => exact ⟨0, 1, [], Nat.zero_le _, rfl, rfl, by omega, by simp, hlt1, Lib.hid ⟨World.ownsRow_nil _ _ _ _, HB1.out.1, HB1.out.2, at_start _⟩⟩
  case round =>
    clear HB1 hlt1
    obtain ⟨k, n, T, hk, rfl, rfl, hn, hT, hwr, hR⟩ := hrel
    by_cases hlt : k < s.size
    · have hlt' : k < (bs s).length := by rw [HL.out]; exact hlt
      cases hse : sepB (s[k].toNat : Int)
      · have HSe := Lib.hid hse
        clear hse
        have hfa := first_any (s.extract k s.size) (by have := Lib.size_eq (s.extract k s.size); rw [this, Lib.extract_data, List.length_take]; omega) (by have := Lib.size_eq (s.extract k s.size); rw [this, Lib.extract_data, List.length_take, List.length_drop, ← Lib.size_eq]; omega) w.heap.size wr hR.out.2.1
        rw [bs_from] at hfa
        have HFA := Lib.hid hfa
        clear hfa
        go_wp2_with (first | (go_at_call 18; refine (sep_any _ false HSe.out _).mono ?_; rintro e w' ⟨rfl, rfl⟩))
        refine HFA.out.mono ?_
        rintro e w2 ⟨rfl, hb2⟩
        cases hfi : first ((bs s).drop k) with
        | none =>
          have HFI := Lib.hid hfi
          clear hfi
          have HB2 := Lib.hid hb2
          clear hb2
          unfold firstV aggV zeroTok
          go_wp2
          go_ret3
          exact ⟨fin_no (by rw [HL.out]; exact hsm) hR.out.2.2.2 hlt' HSe.out HFI.out, ((hR.out.2.2.1).trans (HB2.out.mono (by omega))).alloc (by have := HB2.out.size; omega) _⟩
        | some r =>
          obtain ⟨t, j⟩ := r
          have HFI := Lib.hid hfi
          clear hfi
          have hj := first_size HFI.out
          have hj1 : 1 ≤ j := hj.1
          have hj2 : k + j ≤ s.size := by have := hj.2; rw [List.length_drop, HL.out] at this; omega
          have hjne : ((j : Int) == 0) = false := by simp; omega
          have hw2 : w.heap.size < w2.heap.size := by have := hb2.size; omega
          have HB2 := Lib.hid hb2
          clear hb2 hj
          unfold firstV aggV
          go_wp2_with (at_builtin; refine wpList_append_own _ rfl (.tmp 44) (.tmp 46) 38 rfl (w.heap.size + 1) 44 i0 _ 4 40 Tryd.underlying38 HI.out.1 HI.out.2.1 HI.out.2.2.1 HI.out.2.2.2 rfl (by decide) _ T.length (rows T) rfl (((own_below hR.out.1 HB2.out).alloc _).alloc _) ⟨w2.heap.size + 1, 0, none⟩ 1 1 (cells { t with line := (n : Int) }) rfl rfl (news_cells2 _ _ _ _) (cells_one _) (by unfold maxLen; omega) (by omega) (by simp; omega) ?_; intro v' w3 hown3 hgrow3 _)
          have hst := step_ok hR.out rfl HB2.out hlt' HSe.out HFI.out hown3 hgrow3
          have HST := Lib.hid hst
          clear hst hown3 hgrow3
          go_roundw
          case rel => exact ⟨k + j, n, T ++ [{ t with line := (n : Int) }], by omega, by go_num, rfl, by omega, by simp; omega, HST.out.1, Lib.hid HST.out.2⟩
          case measure => simp [intOf]; omega
      · have HSe := Lib.hid hse
        clear hse
        by_cases h10 : (s[k].toNat : Int) = 10
        · have hb10 : ((s[k].toNat : Int) == 10) = true := by simp [h10]
          have HAt := Lib.hid (at_line hR.out.2.2.2 hlt' (by have : ((bs s)[k]'hlt').toNat = s[k].toNat := rfl; omega))
          have HB10 := Lib.hid hb10
          have hb10 := HB10.out
          clear h10
          go_wp2_with (first | (go_at_call 18; refine (sep_any _ true HSe.out _).mono ?_; rintro e w' ⟨rfl, rfl⟩))
          go_roundw
          case rel => exact ⟨k + 1, n + 1, T, by omega, by go_num, by go_num, by omega, by omega, hwr, Lib.hid ⟨hR.out.1, hR.out.2.1, hR.out.2.2.1, HAt.out⟩⟩
          case measure => simp [intOf]; omega
        · have hb10 : ((s[k].toNat : Int) == 10) = false := by simp; omega
          have HAt := Lib.hid (at_sep hR.out.2.2.2 hlt' (by have : ((bs s)[k]'hlt').toNat = s[k].toNat := rfl; omega) HSe.out)
          clear h10
          go_wp2_with (first | (go_at_call 18; refine (sep_any _ true HSe.out _).mono ?_; rintro e w' ⟨rfl, rfl⟩))
          go_roundw
          case rel => exact ⟨k + 1, n, T, by omega, by go_num, rfl, by omega, by omega, hwr, Lib.hid ⟨hR.out.1, hR.out.2.1, hR.out.2.2.1, HAt.out⟩⟩
          case measure => simp [intOf]; omega
    · go_wp2
      go_ret3
      exact ⟨fin_ok (by rw [HL.out]; exact hsm) hR.out.2.2.2 (by rw [HL.out]; omega) hR.out.1, hR.out.2.2.1⟩
end Go.Proofs.YtbppfhlpielpcaaDoor
