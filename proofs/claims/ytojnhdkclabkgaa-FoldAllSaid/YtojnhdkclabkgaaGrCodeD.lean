/- The code of layer 12: the successors of a block, all blocks, how many there are, inputs and arrays. No condition. -/
import Derived.Test.YtojnhdkclabkgaaGrCodeC
namespace Go.Proofs.Ytojnhdkclabkgaa
open Go.RowKit
set_option linter.unusedVariables false
set_option linter.unusedSimpArgs false
attribute [local go_sem] y_undef
theorem ent_rnx1 (args : Array Value) (w : World) : (callFunc 120 args).run Try.prog w = .ok (.enter 120 args) w := enters_of Try.func120 (by kernel_rfl) rfl args w
theorem ent_rbl1 (args : Array Value) (w : World) : (callFunc 79 args).run Try.prog w = .ok (.enter 79 args) w := enters_of Try.func79 (by kernel_rfl) rfl args w
theorem ent_rd1 (args : Array Value) (w : World) : (callFunc 74 args).run Try.prog w = .ok (.enter 74 args) w := enters_of Try.func74 (by kernel_rfl) rfl args w
theorem ent_rd2 (args : Array Value) (w : World) : (callFunc 77 args).run Try.prog w = .ok (.enter 77 args) w := enters_of Try.func77 (by kernel_rfl) rfl args w
theorem rnx1_any (x : Int) (B : Nat) (Ab : Option Addr) (nb cb : Nat) (w : World) (hB : w.cell? ⟨B, 5, none⟩ = some (.slice Ab nb cb)) : Calls Try.prog 120 #[.int .i64 x, .pointer (some ⟨B, 0, none⟩)] w fun e w' => e = .returned (.bool (Gr.nxAt nb x)) ∧ w' = w := by
  unfold Gr.nxAt
  by_cases h0 : x = 0
  · have e : (x != 0) = false := by simp [h0]
    have e2 : decide (x ≠ 0) = false := by simp [h0]
    rw [e2]
    clear h0 e2
    go_enter Try.func120, Try.ntmps120
    go_wp2
    go_ret
    exact ⟨rfl, rfl⟩
  · have e : (x != 0) = true := by simp [h0]
    have e2 : decide (x ≠ 0) = true := by simp [h0]
    rw [e2]
    clear h0 e2
    go_enter Try.func120, Try.ntmps120
    go_wp2_with fail
    refine (gbelow_any x nb _ rfl _).mono ?_
    rintro e w' ⟨rfl, rfl⟩
    go_wp2
    go_ret
    exact ⟨by simp, rfl⟩
set_option maxHeartbeats 4000000 in
theorem rnext_any (Ai Aa Ab Ap Ah : Option Addr) (ni ci na ca nb cb np cp nh ch : Nat) (V K S : Int) (b : Gr.Blk) (vo vn : Value) (r : Bool) (hr : Gr.nxOk V nb b = r) (w : World) (hvo : ∃ A n c, vo = .slice A n c) (hvn : NumsIn w vn b.next) (hm : b.next.length ≤ maxLen) :
    Calls Try.prog 81 #[.agg #[.slice Ai ni ci, .int .i64 V, .int .i64 K, .slice Aa na ca, .int .i64 S, .slice Ab nb cb, .slice Ap np cp, .slice Ah nh ch], .agg #[vo, .int .i64 b.cond, vn]] w fun e w' => e = .returned (.bool r) ∧ Below w.heap.size w w' := by
  obtain ⟨Ao, no, co, rfl⟩ := hvo
  obtain ⟨A, c, rfl, ho⟩ := hvn.opened
  obtain ⟨n, hn⟩ : ∃ n, b.next.length = n := ⟨_, rfl⟩
  have hp : ∀ W, Below w.heap.size w W → (2 ≤ n → ∃ bb off, A = some ⟨bb, off, none⟩ ∧ W.cell? ⟨bb, off, none⟩ = some (.int .i64 (b.next.getD 0 0)) ∧ W.cell? ⟨bb, off + 1, none⟩ = some (.int .i64 (b.next.getD 1 0))) := fun W hW h2 => by
    obtain ⟨b0, o0, e0, hl0, h0⟩ := ho 0 (by omega)
    obtain ⟨b1, o1, e1, hl1, h1⟩ := ho 1 (by omega)
    obtain ⟨rfl, rfl⟩ : b0 = b1 ∧ o0 = o1 := by rw [e0] at e1; injection e1 with e1; injection e1 with e2 e3 _; exact ⟨e2, e3⟩
    exact ⟨b0, o0, e0, (hW.cell (p := ⟨b0, o0 + 0, none⟩) hl0).trans h0, (hW.cell (p := ⟨b0, o0 + 1, none⟩) hl0).trans h1⟩
  have HP := Lib.hid hp
  rw [hn] at ho hm ⊢
  have hall : (((List.range n).all fun k => Gr.nxAt nb (b.next.getD k 0)) && (if n = 2 then decide (b.next.getD 0 0 ≠ b.next.getD 1 0) && Gr.inn b.cond V else decide (n < 2) && Gr.zer b.cond)) = r := by
    rw [← hr, ← hn]; rfl
  have HR := Lib.hid hall
  obtain ⟨x0, hx0⟩ : ∃ x, b.next.getD 0 0 = x := ⟨_, rfl⟩
  obtain ⟨x1, hx1⟩ : ∃ x, b.next.getD 1 0 = x := ⟨_, rfl⟩
  obtain ⟨cd, hcd⟩ : ∃ x, b.cond = x := ⟨_, rfl⟩
  rw [hx0, hx1, hcd] at HR
  rw [hx0, hx1] at HP
  rw [hcd]
  have HG1 := Lib.hid ((Bk.new w 40 #[.slice Ai ni ci, .int .i64 V, .int .i64 K, .slice Aa na ca, .int .i64 S, .slice Ab nb cb, .slice Ap np cp, .slice Ah nh ch]).below (bla (Below.refl _ _) (.cells #[.slice Ao no co, .int .i64 cd, .slice A n c] 34)))
  have HO1 := Lib.hid (Bk.new (w.alloc (.cells #[.slice Ai ni ci, .int .i64 V, .int .i64 K, .slice Aa na ca, .int .i64 S, .slice Ab nb cb, .slice Ap np cp, .slice Ah nh ch] 40)) 34 #[.slice Ao no co, .int .i64 cd, .slice A n c])
  rw [size_alloc] at HO1
  have HB1 := Lib.hid (bla (bla (Below.refl w.heap.size w) (.cells #[.slice Ai ni ci, .int .i64 V, .int .i64 K, .slice Aa na ca, .int .i64 S, .slice Ab nb cb, .slice Ap np cp, .slice Ah nh ch] 40)) (.cells #[.slice Ao no co, .int .i64 cd, .slice A n c] 34))
  have HC := Lib.hid fun (q : Bool) (hq : ((List.range n).all fun k => Gr.nxAt nb (b.next.getD k 0)) = q) =>
    everyNm_any 120 #[.pointer (some ⟨w.heap.size, 0, none⟩)] ent_rnx1 A n c (fun k => b.next.getD k 0) ((w.alloc (.cells #[.slice Ai ni ci, .int .i64 V, .int .i64 K, .slice Aa na ca, .int .i64 S, .slice Ab nb cb, .slice Ap np cp, .slice Ah nh ch] 40)).alloc (.cells #[.slice Ao no co, .int .i64 cd, .slice A n c] 34)) (fun k => Gr.nxAt nb (b.next.getD k 0)) (fun _ W => Below ((w.alloc (.cells #[.slice Ai ni ci, .int .i64 V, .int .i64 K, .slice Aa na ca, .int .i64 S, .slice Ab nb cb, .slice Ap np cp, .slice Ah nh ch] 40)).alloc (.cells #[.slice Ao no co, .int .i64 cd, .slice A n c] 34)).heap.size ((w.alloc (.cells #[.slice Ai ni ci, .int .i64 V, .int .i64 K, .slice Aa na ca, .int .i64 S, .slice Ab nb cb, .slice Ap np cp, .slice Ah nh ch] 40)).alloc (.cells #[.slice Ao no co, .int .i64 cd, .slice A n c] 34)) W) hm (Below.refl _ _)
    (fun k W hI hk => by
      obtain ⟨bb, off, e, hb, hx⟩ := ho k hk
      exact ⟨bb, off, e, (Below.cell (blt HB1.out hI) (p := ⟨bb, off + k, none⟩) hb).trans hx⟩)
    (fun k W W' hI hb => blt hI hb)
    (fun k W hI hk => (rnx1_any (b.next.getD k 0) w.heap.size Ab nb cb W ((HG1.out.below hI).cell 5)).mono fun e w' h => ⟨h.1, by rw [h.2]; exact hI, by rw [h.2]; exact Sfe.of_below (Below.refl _ _)⟩) q hq
  have HX0 := Lib.hid hx0
  have HX1 := Lib.hid hx1
  clear hvn ho hp hr hall hn hx0 hx1 hcd
  unfold maxLen at hm
  cases h1 : (List.range n).all fun k => Gr.nxAt nb (b.next.getD k 0)
  · have H1 := Lib.hid h1
    clear h1
    go_enter Try.func81, Try.ntmps81
    go_wp2_with fail
    refine (HC.out _ H1.out).mono ?_
    rintro e w1 ⟨rfl, k, hb⟩
    go_wp2
    go_ret
    exact ⟨ret_bool (by rw [← HR.out, H1.out]; rfl), blt HB1.out hb⟩
  · have H1 := Lib.hid h1
    clear h1
    by_cases h2 : n = 2
    · subst h2
      cases h3 : Gr.inn cd V
      all_goals
        have H3 := Lib.hid h3
        clear h3
        by_cases h4 : x0 = x1
        all_goals
          first | (have e4 : (x0 != x1) = false := by simp [h4]) | (have e4 : (x0 != x1) = true := by simp [h4])
          have H4 := Lib.hid h4
          clear h4
          go_enter Try.func81, Try.ntmps81
          go_wp2_with fail
          refine (HC.out _ H1.out).mono ?_
          rintro e w1 ⟨rfl, k, hb⟩
          have q1 := (HO1.out.below hb).cell 1
          have q2 := (HO1.out.below hb).cell 2
          have q3 := (HG1.out.below hb).cell 1
          obtain ⟨bb, off, rfl, c0, c1⟩ := HP.out w1 (blt HB1.out hb) (by omega)
          have HW := Lib.hid (blt HB1.out hb)
          clear hb
          go_wp2
          go_quiet ((go_at_call 72; exact Calls.quiet_of_same (gbelow_any cd V _ H3.out _)))
          go_wp2
          go_ret
          exact ⟨ret_bool (by rw [← HR.out, H1.out, H3.out]; simp [H4.out]), HW.out.trans (below_drewN _ _ _)⟩
    · have e2 : ((n : Int) == 2) = false := by simp; omega
      by_cases h3 : n < 2
      · have h3' : (n : Int) < 2 := by omega
        by_cases h4 : cd = 0
        all_goals
          first | (have e4 : (cd == 0) = false := by simp [h4]; done) | (have e4 : (cd == 0) = true := by simp [h4])
          have H4 := Lib.hid h4
          have H2 := Lib.hid h2
          have H3 := Lib.hid h3
          clear h4 h2 h3
          go_enter Try.func81, Try.ntmps81
          go_wp2_with fail
          refine (HC.out _ H1.out).mono ?_
          rintro e w1 ⟨rfl, k, hb⟩
          have q1 := (HO1.out.below hb).cell 1
          have q2 := (HO1.out.below hb).cell 2
          have HW := Lib.hid (blt HB1.out hb)
          clear hb
          go_wp2
          go_ret
          exact ⟨ret_bool (by rw [← HR.out, H1.out, if_neg H2.out, decide_eq_true H3.out]; simp [Gr.zer, H4.out, e4]), HW.out⟩
      · have h3' : ¬ (n : Int) < 2 := by omega
        have H2 := Lib.hid h2
        have H3 := Lib.hid h3
        clear h2 h3
        go_enter Try.func81, Try.ntmps81
        go_wp2_with fail
        refine (HC.out _ H1.out).mono ?_
        rintro e w1 ⟨rfl, k, hb⟩
        have q1 := (HO1.out.below hb).cell 1
        have q2 := (HO1.out.below hb).cell 2
        have HW := Lib.hid (blt HB1.out hb)
        clear hb
        go_wp2
        go_ret
        exact ⟨ret_bool (by rw [← HR.out, H1.out, if_neg H2.out, decide_eq_false H3.out]; rfl), HW.out⟩
end Go.Proofs.Ytojnhdkclabkgaa
