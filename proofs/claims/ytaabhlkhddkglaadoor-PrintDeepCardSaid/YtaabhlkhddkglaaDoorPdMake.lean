/- The generator's Name, Num, Bin; the law's awake. No condition. -/
import Derived.Test.YtaabhlkhddkglaaDoorRfExpr
namespace Go.Proofs.YtaabhlkhddkglaaDoor
open Go.RowKit Tk
set_option linter.unusedVariables false
set_option linter.unusedSimpArgs false
attribute [local go_sem] y_undef
abbrev zeroE : Array Value := #[.int .i64 0, .int .i64 0, .string ⟨#[]⟩, .int .i64 0, .slice none 0 0]
theorem blk_at {u : World} {g : Nat} {t : TypeId} {cs : Array Value} (h : u.heap.size = g) : Blk (u.alloc (.cells cs t)) g t cs := by subst h; exact Blk.new _ _ _
theorem mname_any (s : ByteArray) (w : World) : Calls Tryd.prog 4 #[.string s] w fun e w' => e = .returned (.agg (exV 2 0 0 s none 0 0)) ∧ Below w.heap.size w w' := by
  go_enter Tryd.func4, Tryd.ntmps4
  go_wp2
  refine bodyPost_ret (v := .agg (exV 2 0 0 s none 0 0)) ?_ rfl ⟨rfl, (Below.refl w.heap.size w).alloc (Nat.le_refl _) _⟩
  simp [results, Tryd.results4, go_sem]
theorem mnum_any (n : Int) (w : World) : Calls Tryd.prog 5 #[.int .i64 n] w fun e w' => e = .returned (.agg (exV 1 n 0 ⟨#[]⟩ none 0 0)) ∧ Below w.heap.size w w' := by
  go_enter Tryd.func5, Tryd.ntmps5
  go_wp2
  refine bodyPost_ret (v := .agg (exV 1 n 0 ⟨#[]⟩ none 0 0)) ?_ rfl ⟨rfl, (Below.refl w.heap.size w).alloc (Nat.le_refl _) _⟩
  simp [results, Tryd.results5, go_sem]
abbrev tenV (k1 n1 o1 : Int) (s1 : ByteArray) (A1 : Option Addr) (l1 c1 : Nat) (k2 n2 o2 : Int) (s2 : ByteArray) (A2 : Option Addr) (l2 c2 : Nat) : Array Value :=
  #[.int .i64 k1, .int .i64 n1, .string s1, .int .i64 o1, .slice A1 l1 c1, .int .i64 k2, .int .i64 n2, .string s2, .int .i64 o2, .slice A2 l2 c2]
set_option maxHeartbeats 1000000 in
theorem mbin_any (op k1 n1 o1 : Int) (s1 : ByteArray) (A1 : Option Addr) (l1 c1 : Nat) (k2 n2 o2 : Int) (s2 : ByteArray) (A2 : Option Addr) (l2 c2 : Nat) (w : World) :
    Calls Tryd.prog 6 #[.int .i64 op, .agg (exV k1 n1 o1 s1 A1 l1 c1), .agg (exV k2 n2 o2 s2 A2 l2 c2)] w fun e w' =>
      ∃ b, e = .returned (.agg (exV 4 0 op ⟨#[]⟩ (some ⟨b, 0, none⟩) 2 2)) ∧ w.heap.size ≤ b ∧ Blk w' b 26 (tenV k1 n1 o1 s1 A1 l1 c1 k2 n2 o2 s2 A2 l2 c2) ∧ Below w.heap.size w w' := by
  go_enter Tryd.func6, Tryd.ntmps6
  go_wp2
  refine bodyPost_ret (v := .agg (exV 4 0 op ⟨#[]⟩ (some ⟨w.heap.size + 1 + 1 + 1, 0, none⟩) 2 2)) ?_ rfl ⟨w.heap.size + 1 + 1 + 1, rfl, by omega, ?_, ?_⟩
  · simp [results, Tryd.results6, go_sem]
  · exact blk_at (by simp only [size_alloc])
  · have b1 := (Below.refl w.heap.size w).alloc (Nat.le_refl _) (.cells (exV k1 n1 o1 s1 A1 l1 c1) 26)
    have b2 := b1.alloc b1.size (.cells (exV k2 n2 o2 s2 A2 l2 c2) 26)
    have b3 := b2.alloc b2.size (.cells (exV 4 0 op ⟨#[]⟩ (some ⟨w.heap.size + 1 + 1 + 1, 0, none⟩) 2 2) 26)
    exact b3.alloc b3.size _
/-- The law's example: i + (-1). -/
abbrev exI : Exs := .cons 2 0 ⟨#[105]⟩ 0 .nil (.cons 1 (-1) ⟨#[]⟩ 0 .nil .nil)
theorem exI_sh : shB 4 0 ⟨#[]⟩ 1 exI.len = true ∧ exI.sh := ⟨by decide, by decide, trivial, by decide, trivial, trivial⟩
theorem exI_tx : eTx 4 0 ⟨#[]⟩ 1 exI.txs = ⟨#[40, 105, 32, 43, 32, 40, 45, 49, 41, 41]⟩ := by
  have h : itB (-1) = ⟨#[45, 49]⟩ := by
    rw [itB_neg (by omega), show (-(-1 : Int)).toNat = 1 from rfl, Lib.decDigits_one (by omega)]
    rfl
  have h2 : numB (-1) = ⟨#[40, 45, 49, 41]⟩ := by
    unfold numB
    rw [if_pos (by omega), h]
    rfl
  show ⟨#[40]⟩ ++ ⟨#[105]⟩ ++ ⟨#[32]⟩ ++ ⟨#[43]⟩ ++ ⟨#[32]⟩ ++ numB (-1) ++ ⟨#[41]⟩ = _
  rw [h2]
  rfl
theorem ten_at {w : World} {S : Nat → Prop} {b : Nat} {k1 n1 o1 k2 n2 o2 : Int} {s1 s2 : ByteArray} {a1 a2 : Exs} {A1 A2 : Option Addr} {c1 c2 : Nat} {t : TypeId} (h : Blk w b t (tenV k1 n1 o1 s1 A1 a1.len c1 k2 n2 o2 s2 A2 a2.len c2)) (hS : S b)
    (h1 : a1.At w S A1) (l1 : a1.len ≤ c1) (h2 : a2.At w S A2) (l2 : a2.len ≤ c2) : (Exs.cons k1 n1 s1 o1 a1 (.cons k2 n2 s2 o2 a2 .nil)).At w S (some ⟨b, 0, none⟩) :=
  ⟨b, 0, rfl, hS, h.lt, h.cell 0, h.cell 1, h.cell 2, h.cell 3, ⟨A1, c1, h.cell 4, l1, h1⟩, b, 5, rfl, hS, h.lt, h.cell 5, h.cell 6, h.cell 7, h.cell 8, ⟨A2, c2, h.cell 9, l2, h2⟩, trivial⟩
theorem exI_any (b : Nat) (w : World) (hB : Blk w b 26 (tenV 2 0 0 ⟨#[105]⟩ none 0 0 1 (-1) 0 ⟨#[]⟩ none 0 0)) (htb : Tab w) :
    Calls Tryd.prog 7 #[.agg (exV 4 0 1 ⟨#[]⟩ (some ⟨b, 0, none⟩) 2 2)] w fun e w' => e = .returned (.tuple #[.string ⟨#[40, 105, 32, 43, 32, 40, 45, 49, 41, 41]⟩, .int .i64 0]) ∧ Below w.heap.size w w' := by
  have h := pexpr_any exI (some ⟨b, 0, none⟩) 2 4 0 1 ⟨#[]⟩ w exI_sh (ten_at (a1 := .nil) (a2 := .nil) hB hB.pk trivial (Nat.le_refl _) trivial (Nat.le_refl _)) (Nat.le_refl _) (by simp [Exs.Wf, Exs.len, maxLen]; decide) (by decide) htb
  rw [if_pos (show exI.height ≤ 7 by decide), if_pos (show exI.height ≤ 7 by decide), exI_tx] at h
  exact h
set_option maxRecDepth 100000 in
theorem awake_any (w : World) (htb : Tab w) : Calls Tryd.prog 9 #[] w fun e w' => e = .returned (.bool true) ∧ Below w.heap.size w w' := by
  have HT := Lib.hid (fun (W : World) (hb : Below w.heap.size w W) => tab_below htb hb)
  clear htb
  go_enter Tryd.func9, Tryd.ntmps9
  go_wp2_with (first
    | (go_at_call 4; refine (mname_any _ _).mono ?_; rintro e w1 ⟨rfl, hb1⟩)
    | (go_at_call 5; refine (mnum_any _ _).mono ?_; rintro e w2 ⟨rfl, hb2⟩; replace hb1 := hb1.trans (hb2.mono hb1.size))
    | (go_at_call 6; refine (mbin_any 1 2 0 0 ⟨#[105]⟩ none 0 0 1 (-1) 0 ⟨#[]⟩ none 0 0 _).mono ?_; rintro e w3 ⟨b, rfl, hbl, hB, hb3⟩; replace hb1 := hb1.trans (hb3.mono hb1.size))
    | (go_at_call 7; refine (exI_any b _ hB (HT.out _ hb1)).mono ?_; rintro e w4 ⟨rfl, hb4⟩; replace hb1 := hb1.trans (hb4.mono hb1.size)))
  go_ret
  exact ⟨rfl, hb1⟩
end Go.Proofs.YtaabhlkhddkglaaDoor
