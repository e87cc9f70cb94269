/- The code of layer 12: which operations are right. No condition. -/
import Derived.Test.YtojnhdkclabkgaaGrCodeA
import Derived.Test.YtojnhdkclabkgaaGrMem
namespace Go.Proofs.Ytojnhdkclabkgaa
open Go.RowKit
set_option linter.unusedVariables false
set_option linter.unusedSimpArgs false
attribute [local go_sem] y_undef
theorem ent_rop1 (args : Array Value) (w : World) : (callFunc 147 args).run Try.prog w = .ok (.enter 147 args) w := enters_of Try.func147 (by kernel_rfl) rfl args w
theorem ent_rop2 (args : Array Value) (w : World) : (callFunc 149 args).run Try.prog w = .ok (.enter 149 args) w := enters_of Try.func149 (by kernel_rfl) rfl args w
theorem rop11_any (x V : Int) (B : Nat) (w : World) (hB : w.cell? ⟨B, 1, none⟩ = some (.int .i64 V)) : Calls Try.prog 147 #[.int .i64 x, .pointer (some ⟨B, 0, none⟩)] w fun e w' => e = .returned (.bool (Gr.inn x V)) ∧ w' = w := by
  go_enter Try.func147, Try.ntmps147
  go_wp2_with (go_at_call 72; refine (gbelow_any x V _ rfl _).mono ?_; rintro e w' ⟨rfl, rfl⟩)
  go_ret
  exact ⟨rfl, rfl⟩
theorem rop21_any (x : Int) (w : World) : Calls Try.prog 149 #[.int .i64 x] w fun e w' => e = .returned (.bool (Gr.zer x)) ∧ w' = w := by
  unfold Gr.zer
  by_cases h1 : x = 0
  · have e : (x == 0) = true := by simp [h1]
    have e2 : decide (x = 0) = true := by simp [h1]
    rw [e2]
    clear h1 e2
    go_enter Try.func149, Try.ntmps149
    go_wp2
    go_ret
    exact ⟨by simp [e], rfl⟩
  · have e : (x == 0) = false := by simp [h1]
    have e2 : decide (x = 0) = false := by simp [h1]
    rw [e2]
    clear h1 e2
    go_enter Try.func149, Try.ntmps149
    go_wp2
    go_ret
    exact ⟨by simp [e], rfl⟩
theorem range_getD (l : List Int) (f : Int → Bool) : ((List.range l.length).all fun k => f (l.getD k 0)) = l.all f := by
  rw [Bool.eq_iff_iff, List.all_eq_true, List.all_eq_true]
  constructor
  · intro h x hx
    obtain ⟨k, hk, rfl⟩ := List.getElem_of_mem hx
    have := h k (by simpa using hk)
    simpa [List.getD, List.getElem?_eq_getElem hk] using this
  · intro h k hk
    have hk' : k < l.length := by simpa using hk
    have := h _ (List.getElem_mem hk')
    simpa [List.getD, List.getElem?_eq_getElem hk'] using this
theorem rop1_any (l : List Int) (v : Value) (B : Nat) (V : Int) (r : Bool) (hr : (l.all fun x => Gr.inn x V) = r) (w : World) (hv : NumsIn w v l) (hm : l.length ≤ maxLen) (hB : w.cell? ⟨B, 1, none⟩ = some (.int .i64 V)) :
    Calls Try.prog 146 #[v, .pointer (some ⟨B, 0, none⟩)] w fun e w' => e = .returned (.bool r) ∧ Below w.heap.size w w' := by
  have hlt : B < w.heap.size := World.block_lt_of_cell? w _ hB
  obtain ⟨A, c, rfl, ho⟩ := hv.opened
  have HC := Lib.hid (everyNm_any 147 #[.pointer (some ⟨B, 0, none⟩)] ent_rop1 A l.length c (fun k => l.getD k 0) w (fun k => Gr.inn (l.getD k 0) V) (fun _ W => Below w.heap.size w W) hm (Below.refl _ _)
    (fun k W hI hk => by
      obtain ⟨b, off, e, hb, hx⟩ := ho k hk
      exact ⟨b, off, e, (Below.cell hI (p := ⟨b, off + k, none⟩) hb).trans hx⟩)
    (fun k W W' hI hb => blt hI hb)
    (fun k W hI hk => (rop11_any (l.getD k 0) V B W ((Below.cell hI (p := ⟨B, 1, none⟩) hlt).trans hB)).mono fun e w' h => ⟨h.1, by rw [h.2]; exact hI, by rw [h.2]; exact Sfe.of_below (Below.refl _ _)⟩) r ((range_getD l _).trans hr))
  clear hv hm hB hr ho
  go_enter Try.func146, Try.ntmps146
  go_wp2_with (go_at_call 84; refine HC.out.mono ?_; rintro e w' ⟨rfl, k, hb⟩)
  go_ret
  exact ⟨rfl, hb⟩
theorem rop2_any (l : List Int) (v : Value) (r : Bool) (hr : (l.all Gr.zer) = r) (w : World) (hv : NumsIn w v l) (hm : l.length ≤ maxLen) :
    Calls Try.prog 148 #[v] w fun e w' => e = .returned (.bool r) ∧ Below w.heap.size w w' := by
  obtain ⟨A, c, rfl, ho⟩ := hv.opened
  have HC := Lib.hid (everyNm_any 149 #[] ent_rop2 A l.length c (fun k => l.getD k 0) w (fun k => Gr.zer (l.getD k 0)) (fun _ W => Below w.heap.size w W) hm (Below.refl _ _)
    (fun k W hI hk => by
      obtain ⟨b, off, e, hb, hx⟩ := ho k hk
      exact ⟨b, off, e, (Below.cell hI (p := ⟨b, off + k, none⟩) hb).trans hx⟩)
    (fun k W W' hI hb => blt hI hb)
    (fun k W hI hk => (rop21_any (l.getD k 0) W).mono fun e w' h => ⟨h.1, by rw [h.2]; exact hI, by rw [h.2]; exact Sfe.of_below (Below.refl _ _)⟩) r ((range_getD l _).trans hr))
  clear hv hm hr ho
  go_enter Try.func148, Try.ntmps148
  go_wp2_with (go_at_call 84; refine HC.out.mono ?_; rintro e w' ⟨rfl, k, hb⟩)
  go_ret
  exact ⟨rfl, hb⟩
theorem Gr.opOk_1 (V A d a b i : Int) : Gr.opOk V A ⟨1, d, a, b, i⟩ = (Gr.inn d V && Gr.isW i && Gr.zer a && Gr.zer b) := by
  unfold Gr.opOk
  simp only [show (1 : Int) = 1 ↔ True by decide, show (1 : Int) = 2 ↔ False by decide, show (1 : Int) = 3 ↔ False by decide, show (1 : Int) = 4 ↔ False by decide, show (1 : Int) = 5 ↔ False by decide, show (1 : Int) = 6 ↔ False by decide, show (1 : Int) = 7 ↔ False by decide]
  rfl
theorem Gr.opOk_2 (V A d a b i : Int) : Gr.opOk V A ⟨2, d, a, b, i⟩ = (Gr.inn d V && Gr.inn a V && Gr.zer b && Gr.zer i) := by
  unfold Gr.opOk
  simp only [show (2 : Int) = 1 ↔ False by decide, show (2 : Int) = 2 ↔ True by decide, show (2 : Int) = 3 ↔ False by decide, show (2 : Int) = 4 ↔ False by decide, show (2 : Int) = 5 ↔ False by decide, show (2 : Int) = 6 ↔ False by decide, show (2 : Int) = 7 ↔ False by decide]
  rfl
theorem Gr.opOk_3 (V A d a b i : Int) : Gr.opOk V A ⟨3, d, a, b, i⟩ = (Gr.inn d V && Gr.inn a V && Gr.inn b V && Gr.knw i) := by
  unfold Gr.opOk
  simp only [show (3 : Int) = 1 ↔ False by decide, show (3 : Int) = 2 ↔ False by decide, show (3 : Int) = 3 ↔ True by decide, show (3 : Int) = 4 ↔ False by decide, show (3 : Int) = 5 ↔ False by decide, show (3 : Int) = 6 ↔ False by decide, show (3 : Int) = 7 ↔ False by decide]
  rfl
theorem Gr.opOk_4 (V A d a b i : Int) : Gr.opOk V A ⟨4, d, a, b, i⟩ = (Gr.inn d V && Gr.inn a V && Gr.inn i A && Gr.zer b) := by
  unfold Gr.opOk
  simp only [show (4 : Int) = 1 ↔ False by decide, show (4 : Int) = 2 ↔ False by decide, show (4 : Int) = 3 ↔ False by decide, show (4 : Int) = 4 ↔ True by decide, show (4 : Int) = 5 ↔ False by decide, show (4 : Int) = 6 ↔ False by decide, show (4 : Int) = 7 ↔ False by decide]
  rfl
theorem Gr.opOk_5 (V A d a b i : Int) : Gr.opOk V A ⟨5, d, a, b, i⟩ = (Gr.inn a V && Gr.inn b V && Gr.inn i A && Gr.zer d) := by
  unfold Gr.opOk
  simp only [show (5 : Int) = 1 ↔ False by decide, show (5 : Int) = 2 ↔ False by decide, show (5 : Int) = 3 ↔ False by decide, show (5 : Int) = 4 ↔ False by decide, show (5 : Int) = 5 ↔ True by decide, show (5 : Int) = 6 ↔ False by decide, show (5 : Int) = 7 ↔ False by decide]
  rfl
theorem Gr.opOk_6 (V A d a b i : Int) : Gr.opOk V A ⟨6, d, a, b, i⟩ = (Gr.inn i 4 && Gr.zer d && Gr.zer a && Gr.zer b) := by
  unfold Gr.opOk
  simp only [show (6 : Int) = 1 ↔ False by decide, show (6 : Int) = 2 ↔ False by decide, show (6 : Int) = 3 ↔ False by decide, show (6 : Int) = 4 ↔ False by decide, show (6 : Int) = 5 ↔ False by decide, show (6 : Int) = 6 ↔ True by decide, show (6 : Int) = 7 ↔ False by decide]
  rfl
theorem Gr.opOk_7 (V A d a b i : Int) : Gr.opOk V A ⟨7, d, a, b, i⟩ = (Gr.inn i 4 && Gr.zer d && Gr.zer a && Gr.zer b) := by
  unfold Gr.opOk
  simp only [show (7 : Int) = 1 ↔ False by decide, show (7 : Int) = 2 ↔ False by decide, show (7 : Int) = 3 ↔ False by decide, show (7 : Int) = 4 ↔ False by decide, show (7 : Int) = 5 ↔ False by decide, show (7 : Int) = 6 ↔ False by decide, show (7 : Int) = 7 ↔ True by decide]
  rfl
/-- The cells of an operation and of a graph, behind a step. -/
theorem oc {W w1 : World} {B C : Nat} {k d a b i : Int} {v0 v1 v2 v3 v4 v5 v6 v7 : Value} (hb : Below W.heap.size W w1) (ho : Bk W C 27 #[.int .i64 k, .int .i64 d, .int .i64 a, .int .i64 b, .int .i64 i]) (hg : Bk W B 40 #[v0, v1, v2, v3, v4, v5, v6, v7]) :
    w1.cell? ⟨C, 1, none⟩ = some (.int .i64 d) ∧ w1.cell? ⟨C, 2, none⟩ = some (.int .i64 a) ∧ w1.cell? ⟨C, 3, none⟩ = some (.int .i64 b) ∧ w1.cell? ⟨C, 4, none⟩ = some (.int .i64 i) ∧ w1.cell? ⟨B, 3, none⟩ = some v3 ∧ Bk w1 C 27 #[.int .i64 k, .int .i64 d, .int .i64 a, .int .i64 b, .int .i64 i] ∧ Bk w1 B 40 #[v0, v1, v2, v3, v4, v5, v6, v7] :=
  ⟨(ho.below hb).cell 1, (ho.below hb).cell 2, (ho.below hb).cell 3, (ho.below hb).cell 4, (hg.below hb).cell 3, ho.below hb, hg.below hb⟩
set_option maxHeartbeats 4000000 in
theorem rop_k1 (Ai Aa Ab Ap Ah : Option Addr) (ni ci na ca nb cb np cp nh ch : Nat) (V K S : Int) (hna : na ≤ maxLen) (d a b i : Int) (r : Bool) (hr : Gr.opOk V na ⟨1, d, a, b, i⟩ = r) (w : World) :
    Calls Try.prog 119 #[.agg #[.slice Ai ni ci, .int .i64 V, .int .i64 K, .slice Aa na ca, .int .i64 S, .slice Ab nb cb, .slice Ap np cp, .slice Ah nh ch], .agg #[.int .i64 1, .int .i64 d, .int .i64 a, .int .i64 b, .int .i64 i]] w fun e w' => e = .returned (.bool r) ∧ Below w.heap.size w w' := by
  have HR := Lib.hid hr
  unfold maxLen at hna
  clear hr
  have HB0 := Lib.hid (bla (bla (Below.refl w.heap.size w) (.cells #[.slice Ai ni ci, .int .i64 V, .int .i64 K, .slice Aa na ca, .int .i64 S, .slice Ab nb cb, .slice Ap np cp, .slice Ah nh ch] 40)) (.cells #[.int .i64 1, .int .i64 d, .int .i64 a, .int .i64 b, .int .i64 i] 27))
  have HO0 := Lib.hid (Bk.new (w.alloc (.cells #[.slice Ai ni ci, .int .i64 V, .int .i64 K, .slice Aa na ca, .int .i64 S, .slice Ab nb cb, .slice Ap np cp, .slice Ah nh ch] 40)) 27 #[.int .i64 1, .int .i64 d, .int .i64 a, .int .i64 b, .int .i64 i])
  have HG0 := Lib.hid ((Bk.new w 40 #[.slice Ai ni ci, .int .i64 V, .int .i64 K, .slice Aa na ca, .int .i64 S, .slice Ab nb cb, .slice Ap np cp, .slice Ah nh ch]).below (bla (Below.refl _ _) (.cells #[.int .i64 1, .int .i64 d, .int .i64 a, .int .i64 b, .int .i64 i] 27)))
  rw [size_alloc] at HO0
  cases h1 : ([d].all fun x => Gr.inn x V)
  · have H1 := Lib.hid h1
    clear h1
    go_enter Try.func119, Try.ntmps119
    go_wp2_with fail
    refine (rop1_any [d] _ _ V _ H1.out _ (nums_new _ [d] _ _ _ (by simp)) (by simp [maxLen]) (by go_simp)).mono ?_
    rintro e w1 ⟨rfl, hb1⟩
    have HB1 := Lib.hid (blt (bla HB0.out _) hb1)
    go_wp2
    go_ret
    exact ⟨ret_bool (Eq.symm (by rw [← HR.out, Gr.opOk_1]; exact (by decide : ∀ p0 p1 p2 p3 : Bool, (p0 && true) = false → (p0 && p1 && p2 && p3) = false) (Gr.inn d V) (Gr.isW i) (Gr.zer a) (Gr.zer b) H1.out)), HB1.out⟩
  · have H1 := Lib.hid h1
    clear h1
    cases h2 : Gr.isW i
    · have H2 := Lib.hid h2
      clear h2
      go_enter Try.func119, Try.ntmps119
      go_wp2_with fail
      refine (rop1_any [d] _ _ V _ H1.out _ (nums_new _ [d] _ _ _ (by simp)) (by simp [maxLen]) (by go_simp)).mono ?_
      rintro e w1 ⟨rfl, hb1⟩
      have HB1 := Lib.hid (blt (bla HB0.out _) hb1)
      obtain ⟨o1, o2, o3, o4, g3, ho1, hg1⟩ := oc (blt (bla (Below.refl _ _) _) hb1) HO0.out HG0.out
      have HO1 := Lib.hid ho1
      have HG1 := Lib.hid hg1
      clear hb1 ho1 hg1
      go_wp2_with fail
      refine (gword_any i _ H2.out _).mono ?_
      rintro e w2 ⟨rfl, rfl⟩
      have HB2 := HB1
      go_wp2
      go_ret
      exact ⟨ret_bool (Eq.symm (by rw [← HR.out, Gr.opOk_1]; exact (by decide : ∀ p0 p1 p2 p3 : Bool, (p0 && true) = true → (p1) = false → (p0 && p1 && p2 && p3) = false) (Gr.inn d V) (Gr.isW i) (Gr.zer a) (Gr.zer b) H1.out H2.out)), HB2.out⟩
    · have H2 := Lib.hid h2
      clear h2
      cases h3 : ([a, b].all Gr.zer)
      · have H3 := Lib.hid h3
        clear h3
        go_enter Try.func119, Try.ntmps119
        go_wp2_with fail
        refine (rop1_any [d] _ _ V _ H1.out _ (nums_new _ [d] _ _ _ (by simp)) (by simp [maxLen]) (by go_simp)).mono ?_
        rintro e w1 ⟨rfl, hb1⟩
        have HB1 := Lib.hid (blt (bla HB0.out _) hb1)
        obtain ⟨o1, o2, o3, o4, g3, ho1, hg1⟩ := oc (blt (bla (Below.refl _ _) _) hb1) HO0.out HG0.out
        have HO1 := Lib.hid ho1
        have HG1 := Lib.hid hg1
        clear hb1 ho1 hg1
        go_wp2_with fail
        refine (gword_any i _ H2.out _).mono ?_
        rintro e w2 ⟨rfl, rfl⟩
        have HB2 := HB1
        have HO2 := HO1
        have HG2 := HG1
        go_wp2_with fail
        refine (rop2_any [a, b] _ _ H3.out _ (nums_new _ [a, b] _ _ _ (by simp)) (by simp [maxLen])).mono ?_
        rintro e w3 ⟨rfl, hb3⟩
        have HB3 := Lib.hid (blt (bla HB2.out _) hb3)
        go_wp2
        go_ret
        exact ⟨ret_bool (Eq.symm (by rw [← HR.out, Gr.opOk_1]; exact (by decide : ∀ p0 p1 p2 p3 : Bool, (p0 && true) = true → (p1) = true → (p2 && (p3 && true)) = false → (p0 && p1 && p2 && p3) = false) (Gr.inn d V) (Gr.isW i) (Gr.zer a) (Gr.zer b) H1.out H2.out H3.out)), HB3.out⟩
      · have H3 := Lib.hid h3
        clear h3
        go_enter Try.func119, Try.ntmps119
        go_wp2_with fail
        refine (rop1_any [d] _ _ V _ H1.out _ (nums_new _ [d] _ _ _ (by simp)) (by simp [maxLen]) (by go_simp)).mono ?_
        rintro e w1 ⟨rfl, hb1⟩
        have HB1 := Lib.hid (blt (bla HB0.out _) hb1)
        obtain ⟨o1, o2, o3, o4, g3, ho1, hg1⟩ := oc (blt (bla (Below.refl _ _) _) hb1) HO0.out HG0.out
        have HO1 := Lib.hid ho1
        have HG1 := Lib.hid hg1
        clear hb1 ho1 hg1
        go_wp2_with fail
        refine (gword_any i _ H2.out _).mono ?_
        rintro e w2 ⟨rfl, rfl⟩
        have HB2 := HB1
        have HO2 := HO1
        have HG2 := HG1
        go_wp2_with fail
        refine (rop2_any [a, b] _ _ H3.out _ (nums_new _ [a, b] _ _ _ (by simp)) (by simp [maxLen])).mono ?_
        rintro e w3 ⟨rfl, hb3⟩
        have HB3 := Lib.hid (blt (bla HB2.out _) hb3)
        go_wp2
        go_ret
        exact ⟨ret_bool (Eq.symm (by rw [← HR.out, Gr.opOk_1]; exact (by decide : ∀ p0 p1 p2 p3 : Bool, (p0 && true) = true → (p1) = true → (p2 && (p3 && true)) = true → (p0 && p1 && p2 && p3) = true) (Gr.inn d V) (Gr.isW i) (Gr.zer a) (Gr.zer b) H1.out H2.out H3.out)), HB3.out⟩
set_option maxHeartbeats 4000000 in
theorem rop_k2 (Ai Aa Ab Ap Ah : Option Addr) (ni ci na ca nb cb np cp nh ch : Nat) (V K S : Int) (hna : na ≤ maxLen) (d a b i : Int) (r : Bool) (hr : Gr.opOk V na ⟨2, d, a, b, i⟩ = r) (w : World) :
    Calls Try.prog 119 #[.agg #[.slice Ai ni ci, .int .i64 V, .int .i64 K, .slice Aa na ca, .int .i64 S, .slice Ab nb cb, .slice Ap np cp, .slice Ah nh ch], .agg #[.int .i64 2, .int .i64 d, .int .i64 a, .int .i64 b, .int .i64 i]] w fun e w' => e = .returned (.bool r) ∧ Below w.heap.size w w' := by
  have HR := Lib.hid hr
  unfold maxLen at hna
  clear hr
  have HB0 := Lib.hid (bla (bla (Below.refl w.heap.size w) (.cells #[.slice Ai ni ci, .int .i64 V, .int .i64 K, .slice Aa na ca, .int .i64 S, .slice Ab nb cb, .slice Ap np cp, .slice Ah nh ch] 40)) (.cells #[.int .i64 2, .int .i64 d, .int .i64 a, .int .i64 b, .int .i64 i] 27))
  have HO0 := Lib.hid (Bk.new (w.alloc (.cells #[.slice Ai ni ci, .int .i64 V, .int .i64 K, .slice Aa na ca, .int .i64 S, .slice Ab nb cb, .slice Ap np cp, .slice Ah nh ch] 40)) 27 #[.int .i64 2, .int .i64 d, .int .i64 a, .int .i64 b, .int .i64 i])
  have HG0 := Lib.hid ((Bk.new w 40 #[.slice Ai ni ci, .int .i64 V, .int .i64 K, .slice Aa na ca, .int .i64 S, .slice Ab nb cb, .slice Ap np cp, .slice Ah nh ch]).below (bla (Below.refl _ _) (.cells #[.int .i64 2, .int .i64 d, .int .i64 a, .int .i64 b, .int .i64 i] 27)))
  rw [size_alloc] at HO0
  cases h1 : ([d, a].all fun x => Gr.inn x V)
  · have H1 := Lib.hid h1
    clear h1
    go_enter Try.func119, Try.ntmps119
    go_wp2_with fail
    refine (rop1_any [d, a] _ _ V _ H1.out _ (nums_new _ [d, a] _ _ _ (by simp)) (by simp [maxLen]) (by go_simp)).mono ?_
    rintro e w1 ⟨rfl, hb1⟩
    have HB1 := Lib.hid (blt (bla HB0.out _) hb1)
    go_wp2
    go_ret
    exact ⟨ret_bool (Eq.symm (by rw [← HR.out, Gr.opOk_2]; exact (by decide : ∀ p0 p1 p2 p3 : Bool, (p0 && (p1 && true)) = false → (p0 && p1 && p2 && p3) = false) (Gr.inn d V) (Gr.inn a V) (Gr.zer b) (Gr.zer i) H1.out)), HB1.out⟩
  · have H1 := Lib.hid h1
    clear h1
    cases h2 : ([b, i].all Gr.zer)
    · have H2 := Lib.hid h2
      clear h2
      go_enter Try.func119, Try.ntmps119
      go_wp2_with fail
      refine (rop1_any [d, a] _ _ V _ H1.out _ (nums_new _ [d, a] _ _ _ (by simp)) (by simp [maxLen]) (by go_simp)).mono ?_
      rintro e w1 ⟨rfl, hb1⟩
      have HB1 := Lib.hid (blt (bla HB0.out _) hb1)
      obtain ⟨o1, o2, o3, o4, g3, ho1, hg1⟩ := oc (blt (bla (Below.refl _ _) _) hb1) HO0.out HG0.out
      have HO1 := Lib.hid ho1
      have HG1 := Lib.hid hg1
      clear hb1 ho1 hg1
      go_wp2_with fail
      refine (rop2_any [b, i] _ _ H2.out _ (nums_new _ [b, i] _ _ _ (by simp)) (by simp [maxLen])).mono ?_
      rintro e w2 ⟨rfl, hb2⟩
      have HB2 := Lib.hid (blt (bla HB1.out _) hb2)
      go_wp2
      go_ret
      exact ⟨ret_bool (Eq.symm (by rw [← HR.out, Gr.opOk_2]; exact (by decide : ∀ p0 p1 p2 p3 : Bool, (p0 && (p1 && true)) = true → (p2 && (p3 && true)) = false → (p0 && p1 && p2 && p3) = false) (Gr.inn d V) (Gr.inn a V) (Gr.zer b) (Gr.zer i) H1.out H2.out)), HB2.out⟩
    · have H2 := Lib.hid h2
      clear h2
      go_enter Try.func119, Try.ntmps119
      go_wp2_with fail
      refine (rop1_any [d, a] _ _ V _ H1.out _ (nums_new _ [d, a] _ _ _ (by simp)) (by simp [maxLen]) (by go_simp)).mono ?_
      rintro e w1 ⟨rfl, hb1⟩
      have HB1 := Lib.hid (blt (bla HB0.out _) hb1)
      obtain ⟨o1, o2, o3, o4, g3, ho1, hg1⟩ := oc (blt (bla (Below.refl _ _) _) hb1) HO0.out HG0.out
      have HO1 := Lib.hid ho1
      have HG1 := Lib.hid hg1
      clear hb1 ho1 hg1
      go_wp2_with fail
      refine (rop2_any [b, i] _ _ H2.out _ (nums_new _ [b, i] _ _ _ (by simp)) (by simp [maxLen])).mono ?_
      rintro e w2 ⟨rfl, hb2⟩
      have HB2 := Lib.hid (blt (bla HB1.out _) hb2)
      go_wp2
      go_ret
      exact ⟨ret_bool (Eq.symm (by rw [← HR.out, Gr.opOk_2]; exact (by decide : ∀ p0 p1 p2 p3 : Bool, (p0 && (p1 && true)) = true → (p2 && (p3 && true)) = true → (p0 && p1 && p2 && p3) = true) (Gr.inn d V) (Gr.inn a V) (Gr.zer b) (Gr.zer i) H1.out H2.out)), HB2.out⟩
set_option maxHeartbeats 4000000 in
theorem rop_k3 (Ai Aa Ab Ap Ah : Option Addr) (ni ci na ca nb cb np cp nh ch : Nat) (V K S : Int) (hna : na ≤ maxLen) (d a b i : Int) (r : Bool) (hr : Gr.opOk V na ⟨3, d, a, b, i⟩ = r) (w : World) :
    Calls Try.prog 119 #[.agg #[.slice Ai ni ci, .int .i64 V, .int .i64 K, .slice Aa na ca, .int .i64 S, .slice Ab nb cb, .slice Ap np cp, .slice Ah nh ch], .agg #[.int .i64 3, .int .i64 d, .int .i64 a, .int .i64 b, .int .i64 i]] w fun e w' => e = .returned (.bool r) ∧ Below w.heap.size w w' := by
  have HR := Lib.hid hr
  unfold maxLen at hna
  clear hr
  have HB0 := Lib.hid (bla (bla (Below.refl w.heap.size w) (.cells #[.slice Ai ni ci, .int .i64 V, .int .i64 K, .slice Aa na ca, .int .i64 S, .slice Ab nb cb, .slice Ap np cp, .slice Ah nh ch] 40)) (.cells #[.int .i64 3, .int .i64 d, .int .i64 a, .int .i64 b, .int .i64 i] 27))
  have HO0 := Lib.hid (Bk.new (w.alloc (.cells #[.slice Ai ni ci, .int .i64 V, .int .i64 K, .slice Aa na ca, .int .i64 S, .slice Ab nb cb, .slice Ap np cp, .slice Ah nh ch] 40)) 27 #[.int .i64 3, .int .i64 d, .int .i64 a, .int .i64 b, .int .i64 i])
  have HG0 := Lib.hid ((Bk.new w 40 #[.slice Ai ni ci, .int .i64 V, .int .i64 K, .slice Aa na ca, .int .i64 S, .slice Ab nb cb, .slice Ap np cp, .slice Ah nh ch]).below (bla (Below.refl _ _) (.cells #[.int .i64 3, .int .i64 d, .int .i64 a, .int .i64 b, .int .i64 i] 27)))
  rw [size_alloc] at HO0
  cases h1 : ([d, a, b].all fun x => Gr.inn x V)
  · have H1 := Lib.hid h1
    clear h1
    go_enter Try.func119, Try.ntmps119
    go_wp2_with fail
    refine (rop1_any [d, a, b] _ _ V _ H1.out _ (nums_new _ [d, a, b] _ _ _ (by simp)) (by simp [maxLen]) (by go_simp)).mono ?_
    rintro e w1 ⟨rfl, hb1⟩
    have HB1 := Lib.hid (blt (bla HB0.out _) hb1)
    go_wp2
    go_ret
    exact ⟨ret_bool (Eq.symm (by rw [← HR.out, Gr.opOk_3]; exact (by decide : ∀ p0 p1 p2 p3 : Bool, (p0 && (p1 && (p2 && true))) = false → (p0 && p1 && p2 && p3) = false) (Gr.inn d V) (Gr.inn a V) (Gr.inn b V) (Gr.knw i) H1.out)), HB1.out⟩
  · have H1 := Lib.hid h1
    clear h1
    cases h2 : Gr.knw i
    · have H2 := Lib.hid h2
      clear h2
      go_enter Try.func119, Try.ntmps119
      go_wp2_with fail
      refine (rop1_any [d, a, b] _ _ V _ H1.out _ (nums_new _ [d, a, b] _ _ _ (by simp)) (by simp [maxLen]) (by go_simp)).mono ?_
      rintro e w1 ⟨rfl, hb1⟩
      have HB1 := Lib.hid (blt (bla HB0.out _) hb1)
      obtain ⟨o1, o2, o3, o4, g3, ho1, hg1⟩ := oc (blt (bla (Below.refl _ _) _) hb1) HO0.out HG0.out
      have HO1 := Lib.hid ho1
      have HG1 := Lib.hid hg1
      clear hb1 ho1 hg1
      go_wp2_with fail
      refine (wKnown_c i _ H2.out _).mono ?_
      rintro e w2 ⟨rfl, rfl⟩
      have HB2 := HB1
      go_wp2
      go_ret
      exact ⟨ret_bool (Eq.symm (by rw [← HR.out, Gr.opOk_3]; exact (by decide : ∀ p0 p1 p2 p3 : Bool, (p0 && (p1 && (p2 && true))) = true → (p3) = false → (p0 && p1 && p2 && p3) = false) (Gr.inn d V) (Gr.inn a V) (Gr.inn b V) (Gr.knw i) H1.out H2.out)), HB2.out⟩
    · have H2 := Lib.hid h2
      clear h2
      go_enter Try.func119, Try.ntmps119
      go_wp2_with fail
      refine (rop1_any [d, a, b] _ _ V _ H1.out _ (nums_new _ [d, a, b] _ _ _ (by simp)) (by simp [maxLen]) (by go_simp)).mono ?_
      rintro e w1 ⟨rfl, hb1⟩
      have HB1 := Lib.hid (blt (bla HB0.out _) hb1)
      obtain ⟨o1, o2, o3, o4, g3, ho1, hg1⟩ := oc (blt (bla (Below.refl _ _) _) hb1) HO0.out HG0.out
      have HO1 := Lib.hid ho1
      have HG1 := Lib.hid hg1
      clear hb1 ho1 hg1
      go_wp2_with fail
      refine (wKnown_c i _ H2.out _).mono ?_
      rintro e w2 ⟨rfl, rfl⟩
      have HB2 := HB1
      go_wp2
      go_ret
      exact ⟨ret_bool (Eq.symm (by rw [← HR.out, Gr.opOk_3]; exact (by decide : ∀ p0 p1 p2 p3 : Bool, (p0 && (p1 && (p2 && true))) = true → (p3) = true → (p0 && p1 && p2 && p3) = true) (Gr.inn d V) (Gr.inn a V) (Gr.inn b V) (Gr.knw i) H1.out H2.out)), HB2.out⟩
set_option maxHeartbeats 4000000 in
theorem rop_k4 (Ai Aa Ab Ap Ah : Option Addr) (ni ci na ca nb cb np cp nh ch : Nat) (V K S : Int) (hna : na ≤ maxLen) (d a b i : Int) (r : Bool) (hr : Gr.opOk V na ⟨4, d, a, b, i⟩ = r) (w : World) :
    Calls Try.prog 119 #[.agg #[.slice Ai ni ci, .int .i64 V, .int .i64 K, .slice Aa na ca, .int .i64 S, .slice Ab nb cb, .slice Ap np cp, .slice Ah nh ch], .agg #[.int .i64 4, .int .i64 d, .int .i64 a, .int .i64 b, .int .i64 i]] w fun e w' => e = .returned (.bool r) ∧ Below w.heap.size w w' := by
  have HR := Lib.hid hr
  unfold maxLen at hna
  clear hr
  have HB0 := Lib.hid (bla (bla (Below.refl w.heap.size w) (.cells #[.slice Ai ni ci, .int .i64 V, .int .i64 K, .slice Aa na ca, .int .i64 S, .slice Ab nb cb, .slice Ap np cp, .slice Ah nh ch] 40)) (.cells #[.int .i64 4, .int .i64 d, .int .i64 a, .int .i64 b, .int .i64 i] 27))
  have HO0 := Lib.hid (Bk.new (w.alloc (.cells #[.slice Ai ni ci, .int .i64 V, .int .i64 K, .slice Aa na ca, .int .i64 S, .slice Ab nb cb, .slice Ap np cp, .slice Ah nh ch] 40)) 27 #[.int .i64 4, .int .i64 d, .int .i64 a, .int .i64 b, .int .i64 i])
  have HG0 := Lib.hid ((Bk.new w 40 #[.slice Ai ni ci, .int .i64 V, .int .i64 K, .slice Aa na ca, .int .i64 S, .slice Ab nb cb, .slice Ap np cp, .slice Ah nh ch]).below (bla (Below.refl _ _) (.cells #[.int .i64 4, .int .i64 d, .int .i64 a, .int .i64 b, .int .i64 i] 27)))
  rw [size_alloc] at HO0
  cases h1 : ([d, a].all fun x => Gr.inn x V)
  · have H1 := Lib.hid h1
    clear h1
    go_enter Try.func119, Try.ntmps119
    go_wp2_with fail
    refine (rop1_any [d, a] _ _ V _ H1.out _ (nums_new _ [d, a] _ _ _ (by simp)) (by simp [maxLen]) (by go_simp)).mono ?_
    rintro e w1 ⟨rfl, hb1⟩
    have HB1 := Lib.hid (blt (bla HB0.out _) hb1)
    go_wp2
    go_ret
    exact ⟨ret_bool (Eq.symm (by rw [← HR.out, Gr.opOk_4]; exact (by decide : ∀ p0 p1 p2 p3 : Bool, (p0 && (p1 && true)) = false → (p0 && p1 && p2 && p3) = false) (Gr.inn d V) (Gr.inn a V) (Gr.inn i (na : Int)) (Gr.zer b) H1.out)), HB1.out⟩
  · have H1 := Lib.hid h1
    clear h1
    cases h2 : Gr.inn i (na : Int)
    · have H2 := Lib.hid h2
      clear h2
      go_enter Try.func119, Try.ntmps119
      go_wp2_with fail
      refine (rop1_any [d, a] _ _ V _ H1.out _ (nums_new _ [d, a] _ _ _ (by simp)) (by simp [maxLen]) (by go_simp)).mono ?_
      rintro e w1 ⟨rfl, hb1⟩
      have HB1 := Lib.hid (blt (bla HB0.out _) hb1)
      obtain ⟨o1, o2, o3, o4, g3, ho1, hg1⟩ := oc (blt (bla (Below.refl _ _) _) hb1) HO0.out HG0.out
      have HO1 := Lib.hid ho1
      have HG1 := Lib.hid hg1
      clear hb1 ho1 hg1
      go_wp2_with fail
      refine (gbelow_any i (na : Int) _ H2.out _).mono ?_
      rintro e w2 ⟨rfl, rfl⟩
      have HB2 := HB1
      go_wp2
      go_ret
      exact ⟨ret_bool (Eq.symm (by rw [← HR.out, Gr.opOk_4]; exact (by decide : ∀ p0 p1 p2 p3 : Bool, (p0 && (p1 && true)) = true → (p2) = false → (p0 && p1 && p2 && p3) = false) (Gr.inn d V) (Gr.inn a V) (Gr.inn i (na : Int)) (Gr.zer b) H1.out H2.out)), HB2.out⟩
    · have H2 := Lib.hid h2
      clear h2
      cases h3 : ([b].all Gr.zer)
      · have H3 := Lib.hid h3
        clear h3
        go_enter Try.func119, Try.ntmps119
        go_wp2_with fail
        refine (rop1_any [d, a] _ _ V _ H1.out _ (nums_new _ [d, a] _ _ _ (by simp)) (by simp [maxLen]) (by go_simp)).mono ?_
        rintro e w1 ⟨rfl, hb1⟩
        have HB1 := Lib.hid (blt (bla HB0.out _) hb1)
        obtain ⟨o1, o2, o3, o4, g3, ho1, hg1⟩ := oc (blt (bla (Below.refl _ _) _) hb1) HO0.out HG0.out
        have HO1 := Lib.hid ho1
        have HG1 := Lib.hid hg1
        clear hb1 ho1 hg1
        go_wp2_with fail
        refine (gbelow_any i (na : Int) _ H2.out _).mono ?_
        rintro e w2 ⟨rfl, rfl⟩
        have HB2 := HB1
        have HO2 := HO1
        have HG2 := HG1
        go_wp2_with fail
        refine (rop2_any [b] _ _ H3.out _ (nums_new _ [b] _ _ _ (by simp)) (by simp [maxLen])).mono ?_
        rintro e w3 ⟨rfl, hb3⟩
        have HB3 := Lib.hid (blt (bla HB2.out _) hb3)
        go_wp2
        go_ret
        exact ⟨ret_bool (Eq.symm (by rw [← HR.out, Gr.opOk_4]; exact (by decide : ∀ p0 p1 p2 p3 : Bool, (p0 && (p1 && true)) = true → (p2) = true → (p3 && true) = false → (p0 && p1 && p2 && p3) = false) (Gr.inn d V) (Gr.inn a V) (Gr.inn i (na : Int)) (Gr.zer b) H1.out H2.out H3.out)), HB3.out⟩
      · have H3 := Lib.hid h3
        clear h3
        go_enter Try.func119, Try.ntmps119
        go_wp2_with fail
        refine (rop1_any [d, a] _ _ V _ H1.out _ (nums_new _ [d, a] _ _ _ (by simp)) (by simp [maxLen]) (by go_simp)).mono ?_
        rintro e w1 ⟨rfl, hb1⟩
        have HB1 := Lib.hid (blt (bla HB0.out _) hb1)
        obtain ⟨o1, o2, o3, o4, g3, ho1, hg1⟩ := oc (blt (bla (Below.refl _ _) _) hb1) HO0.out HG0.out
        have HO1 := Lib.hid ho1
        have HG1 := Lib.hid hg1
        clear hb1 ho1 hg1
        go_wp2_with fail
        refine (gbelow_any i (na : Int) _ H2.out _).mono ?_
        rintro e w2 ⟨rfl, rfl⟩
        have HB2 := HB1
        have HO2 := HO1
        have HG2 := HG1
        go_wp2_with fail
        refine (rop2_any [b] _ _ H3.out _ (nums_new _ [b] _ _ _ (by simp)) (by simp [maxLen])).mono ?_
        rintro e w3 ⟨rfl, hb3⟩
        have HB3 := Lib.hid (blt (bla HB2.out _) hb3)
        go_wp2
        go_ret
        exact ⟨ret_bool (Eq.symm (by rw [← HR.out, Gr.opOk_4]; exact (by decide : ∀ p0 p1 p2 p3 : Bool, (p0 && (p1 && true)) = true → (p2) = true → (p3 && true) = true → (p0 && p1 && p2 && p3) = true) (Gr.inn d V) (Gr.inn a V) (Gr.inn i (na : Int)) (Gr.zer b) H1.out H2.out H3.out)), HB3.out⟩
set_option maxHeartbeats 4000000 in
theorem rop_k5 (Ai Aa Ab Ap Ah : Option Addr) (ni ci na ca nb cb np cp nh ch : Nat) (V K S : Int) (hna : na ≤ maxLen) (d a b i : Int) (r : Bool) (hr : Gr.opOk V na ⟨5, d, a, b, i⟩ = r) (w : World) :
    Calls Try.prog 119 #[.agg #[.slice Ai ni ci, .int .i64 V, .int .i64 K, .slice Aa na ca, .int .i64 S, .slice Ab nb cb, .slice Ap np cp, .slice Ah nh ch], .agg #[.int .i64 5, .int .i64 d, .int .i64 a, .int .i64 b, .int .i64 i]] w fun e w' => e = .returned (.bool r) ∧ Below w.heap.size w w' := by
  have HR := Lib.hid hr
  unfold maxLen at hna
  clear hr
  have HB0 := Lib.hid (bla (bla (Below.refl w.heap.size w) (.cells #[.slice Ai ni ci, .int .i64 V, .int .i64 K, .slice Aa na ca, .int .i64 S, .slice Ab nb cb, .slice Ap np cp, .slice Ah nh ch] 40)) (.cells #[.int .i64 5, .int .i64 d, .int .i64 a, .int .i64 b, .int .i64 i] 27))
  have HO0 := Lib.hid (Bk.new (w.alloc (.cells #[.slice Ai ni ci, .int .i64 V, .int .i64 K, .slice Aa na ca, .int .i64 S, .slice Ab nb cb, .slice Ap np cp, .slice Ah nh ch] 40)) 27 #[.int .i64 5, .int .i64 d, .int .i64 a, .int .i64 b, .int .i64 i])
  have HG0 := Lib.hid ((Bk.new w 40 #[.slice Ai ni ci, .int .i64 V, .int .i64 K, .slice Aa na ca, .int .i64 S, .slice Ab nb cb, .slice Ap np cp, .slice Ah nh ch]).below (bla (Below.refl _ _) (.cells #[.int .i64 5, .int .i64 d, .int .i64 a, .int .i64 b, .int .i64 i] 27)))
  rw [size_alloc] at HO0
  cases h1 : ([a, b].all fun x => Gr.inn x V)
  · have H1 := Lib.hid h1
    clear h1
    go_enter Try.func119, Try.ntmps119
    go_wp2_with fail
    refine (rop1_any [a, b] _ _ V _ H1.out _ (nums_new _ [a, b] _ _ _ (by simp)) (by simp [maxLen]) (by go_simp)).mono ?_
    rintro e w1 ⟨rfl, hb1⟩
    have HB1 := Lib.hid (blt (bla HB0.out _) hb1)
    go_wp2
    go_ret
    exact ⟨ret_bool (Eq.symm (by rw [← HR.out, Gr.opOk_5]; exact (by decide : ∀ p0 p1 p2 p3 : Bool, (p0 && (p1 && true)) = false → (p0 && p1 && p2 && p3) = false) (Gr.inn a V) (Gr.inn b V) (Gr.inn i (na : Int)) (Gr.zer d) H1.out)), HB1.out⟩
  · have H1 := Lib.hid h1
    clear h1
    cases h2 : Gr.inn i (na : Int)
    · have H2 := Lib.hid h2
      clear h2
      go_enter Try.func119, Try.ntmps119
      go_wp2_with fail
      refine (rop1_any [a, b] _ _ V _ H1.out _ (nums_new _ [a, b] _ _ _ (by simp)) (by simp [maxLen]) (by go_simp)).mono ?_
      rintro e w1 ⟨rfl, hb1⟩
      have HB1 := Lib.hid (blt (bla HB0.out _) hb1)
      obtain ⟨o1, o2, o3, o4, g3, ho1, hg1⟩ := oc (blt (bla (Below.refl _ _) _) hb1) HO0.out HG0.out
      have HO1 := Lib.hid ho1
      have HG1 := Lib.hid hg1
      clear hb1 ho1 hg1
      go_wp2_with fail
      refine (gbelow_any i (na : Int) _ H2.out _).mono ?_
      rintro e w2 ⟨rfl, rfl⟩
      have HB2 := HB1
      go_wp2
      go_ret
      exact ⟨ret_bool (Eq.symm (by rw [← HR.out, Gr.opOk_5]; exact (by decide : ∀ p0 p1 p2 p3 : Bool, (p0 && (p1 && true)) = true → (p2) = false → (p0 && p1 && p2 && p3) = false) (Gr.inn a V) (Gr.inn b V) (Gr.inn i (na : Int)) (Gr.zer d) H1.out H2.out)), HB2.out⟩
    · have H2 := Lib.hid h2
      clear h2
      cases h3 : ([d].all Gr.zer)
      · have H3 := Lib.hid h3
        clear h3
        go_enter Try.func119, Try.ntmps119
        go_wp2_with fail
        refine (rop1_any [a, b] _ _ V _ H1.out _ (nums_new _ [a, b] _ _ _ (by simp)) (by simp [maxLen]) (by go_simp)).mono ?_
        rintro e w1 ⟨rfl, hb1⟩
        have HB1 := Lib.hid (blt (bla HB0.out _) hb1)
        obtain ⟨o1, o2, o3, o4, g3, ho1, hg1⟩ := oc (blt (bla (Below.refl _ _) _) hb1) HO0.out HG0.out
        have HO1 := Lib.hid ho1
        have HG1 := Lib.hid hg1
        clear hb1 ho1 hg1
        go_wp2_with fail
        refine (gbelow_any i (na : Int) _ H2.out _).mono ?_
        rintro e w2 ⟨rfl, rfl⟩
        have HB2 := HB1
        have HO2 := HO1
        have HG2 := HG1
        go_wp2_with fail
        refine (rop2_any [d] _ _ H3.out _ (nums_new _ [d] _ _ _ (by simp)) (by simp [maxLen])).mono ?_
        rintro e w3 ⟨rfl, hb3⟩
        have HB3 := Lib.hid (blt (bla HB2.out _) hb3)
        go_wp2
        go_ret
        exact ⟨ret_bool (Eq.symm (by rw [← HR.out, Gr.opOk_5]; exact (by decide : ∀ p0 p1 p2 p3 : Bool, (p0 && (p1 && true)) = true → (p2) = true → (p3 && true) = false → (p0 && p1 && p2 && p3) = false) (Gr.inn a V) (Gr.inn b V) (Gr.inn i (na : Int)) (Gr.zer d) H1.out H2.out H3.out)), HB3.out⟩
      · have H3 := Lib.hid h3
        clear h3
        go_enter Try.func119, Try.ntmps119
        go_wp2_with fail
        refine (rop1_any [a, b] _ _ V _ H1.out _ (nums_new _ [a, b] _ _ _ (by simp)) (by simp [maxLen]) (by go_simp)).mono ?_
        rintro e w1 ⟨rfl, hb1⟩
        have HB1 := Lib.hid (blt (bla HB0.out _) hb1)
        obtain ⟨o1, o2, o3, o4, g3, ho1, hg1⟩ := oc (blt (bla (Below.refl _ _) _) hb1) HO0.out HG0.out
        have HO1 := Lib.hid ho1
        have HG1 := Lib.hid hg1
        clear hb1 ho1 hg1
        go_wp2_with fail
        refine (gbelow_any i (na : Int) _ H2.out _).mono ?_
        rintro e w2 ⟨rfl, rfl⟩
        have HB2 := HB1
        have HO2 := HO1
        have HG2 := HG1
        go_wp2_with fail
        refine (rop2_any [d] _ _ H3.out _ (nums_new _ [d] _ _ _ (by simp)) (by simp [maxLen])).mono ?_
        rintro e w3 ⟨rfl, hb3⟩
        have HB3 := Lib.hid (blt (bla HB2.out _) hb3)
        go_wp2
        go_ret
        exact ⟨ret_bool (Eq.symm (by rw [← HR.out, Gr.opOk_5]; exact (by decide : ∀ p0 p1 p2 p3 : Bool, (p0 && (p1 && true)) = true → (p2) = true → (p3 && true) = true → (p0 && p1 && p2 && p3) = true) (Gr.inn a V) (Gr.inn b V) (Gr.inn i (na : Int)) (Gr.zer d) H1.out H2.out H3.out)), HB3.out⟩
set_option maxHeartbeats 4000000 in
theorem rop_k6 (Ai Aa Ab Ap Ah : Option Addr) (ni ci na ca nb cb np cp nh ch : Nat) (V K S : Int) (hna : na ≤ maxLen) (d a b i : Int) (r : Bool) (hr : Gr.opOk V na ⟨6, d, a, b, i⟩ = r) (w : World) :
    Calls Try.prog 119 #[.agg #[.slice Ai ni ci, .int .i64 V, .int .i64 K, .slice Aa na ca, .int .i64 S, .slice Ab nb cb, .slice Ap np cp, .slice Ah nh ch], .agg #[.int .i64 6, .int .i64 d, .int .i64 a, .int .i64 b, .int .i64 i]] w fun e w' => e = .returned (.bool r) ∧ Below w.heap.size w w' := by
  have HR := Lib.hid hr
  unfold maxLen at hna
  clear hr
  have HB0 := Lib.hid (bla (bla (Below.refl w.heap.size w) (.cells #[.slice Ai ni ci, .int .i64 V, .int .i64 K, .slice Aa na ca, .int .i64 S, .slice Ab nb cb, .slice Ap np cp, .slice Ah nh ch] 40)) (.cells #[.int .i64 6, .int .i64 d, .int .i64 a, .int .i64 b, .int .i64 i] 27))
  have HO0 := Lib.hid (Bk.new (w.alloc (.cells #[.slice Ai ni ci, .int .i64 V, .int .i64 K, .slice Aa na ca, .int .i64 S, .slice Ab nb cb, .slice Ap np cp, .slice Ah nh ch] 40)) 27 #[.int .i64 6, .int .i64 d, .int .i64 a, .int .i64 b, .int .i64 i])
  have HG0 := Lib.hid ((Bk.new w 40 #[.slice Ai ni ci, .int .i64 V, .int .i64 K, .slice Aa na ca, .int .i64 S, .slice Ab nb cb, .slice Ap np cp, .slice Ah nh ch]).below (bla (Below.refl _ _) (.cells #[.int .i64 6, .int .i64 d, .int .i64 a, .int .i64 b, .int .i64 i] 27)))
  rw [size_alloc] at HO0
  cases h1 : Gr.inn i 4
  · have H1 := Lib.hid h1
    clear h1
    go_enter Try.func119, Try.ntmps119
    go_wp2_with fail
    refine (gbelow_any i 4 _ H1.out _).mono ?_
    rintro e w1 ⟨rfl, rfl⟩
    have HB1 := HB0
    go_wp2
    go_ret
    exact ⟨ret_bool (Eq.symm (by rw [← HR.out, Gr.opOk_6]; exact (by decide : ∀ p0 p1 p2 p3 : Bool, (p0) = false → (p0 && p1 && p2 && p3) = false) (Gr.inn i 4) (Gr.zer d) (Gr.zer a) (Gr.zer b) H1.out)), HB1.out⟩
  · have H1 := Lib.hid h1
    clear h1
    cases h2 : ([d, a, b].all Gr.zer)
    · have H2 := Lib.hid h2
      clear h2
      go_enter Try.func119, Try.ntmps119
      go_wp2_with fail
      refine (gbelow_any i 4 _ H1.out _).mono ?_
      rintro e w1 ⟨rfl, rfl⟩
      have HB1 := HB0
      have HO1 := HO0
      have HG1 := HG0
      go_wp2_with fail
      refine (rop2_any [d, a, b] _ _ H2.out _ (nums_new _ [d, a, b] _ _ _ (by simp)) (by simp [maxLen])).mono ?_
      rintro e w2 ⟨rfl, hb2⟩
      have HB2 := Lib.hid (blt (bla HB1.out _) hb2)
      go_wp2
      go_ret
      exact ⟨ret_bool (Eq.symm (by rw [← HR.out, Gr.opOk_6]; exact (by decide : ∀ p0 p1 p2 p3 : Bool, (p0) = true → (p1 && (p2 && (p3 && true))) = false → (p0 && p1 && p2 && p3) = false) (Gr.inn i 4) (Gr.zer d) (Gr.zer a) (Gr.zer b) H1.out H2.out)), HB2.out⟩
    · have H2 := Lib.hid h2
      clear h2
      go_enter Try.func119, Try.ntmps119
      go_wp2_with fail
      refine (gbelow_any i 4 _ H1.out _).mono ?_
      rintro e w1 ⟨rfl, rfl⟩
      have HB1 := HB0
      have HO1 := HO0
      have HG1 := HG0
      go_wp2_with fail
      refine (rop2_any [d, a, b] _ _ H2.out _ (nums_new _ [d, a, b] _ _ _ (by simp)) (by simp [maxLen])).mono ?_
      rintro e w2 ⟨rfl, hb2⟩
      have HB2 := Lib.hid (blt (bla HB1.out _) hb2)
      go_wp2
      go_ret
      exact ⟨ret_bool (Eq.symm (by rw [← HR.out, Gr.opOk_6]; exact (by decide : ∀ p0 p1 p2 p3 : Bool, (p0) = true → (p1 && (p2 && (p3 && true))) = true → (p0 && p1 && p2 && p3) = true) (Gr.inn i 4) (Gr.zer d) (Gr.zer a) (Gr.zer b) H1.out H2.out)), HB2.out⟩
set_option maxHeartbeats 4000000 in
theorem rop_k7 (Ai Aa Ab Ap Ah : Option Addr) (ni ci na ca nb cb np cp nh ch : Nat) (V K S : Int) (hna : na ≤ maxLen) (d a b i : Int) (r : Bool) (hr : Gr.opOk V na ⟨7, d, a, b, i⟩ = r) (w : World) :
    Calls Try.prog 119 #[.agg #[.slice Ai ni ci, .int .i64 V, .int .i64 K, .slice Aa na ca, .int .i64 S, .slice Ab nb cb, .slice Ap np cp, .slice Ah nh ch], .agg #[.int .i64 7, .int .i64 d, .int .i64 a, .int .i64 b, .int .i64 i]] w fun e w' => e = .returned (.bool r) ∧ Below w.heap.size w w' := by
  have HR := Lib.hid hr
  unfold maxLen at hna
  clear hr
  have HB0 := Lib.hid (bla (bla (Below.refl w.heap.size w) (.cells #[.slice Ai ni ci, .int .i64 V, .int .i64 K, .slice Aa na ca, .int .i64 S, .slice Ab nb cb, .slice Ap np cp, .slice Ah nh ch] 40)) (.cells #[.int .i64 7, .int .i64 d, .int .i64 a, .int .i64 b, .int .i64 i] 27))
  have HO0 := Lib.hid (Bk.new (w.alloc (.cells #[.slice Ai ni ci, .int .i64 V, .int .i64 K, .slice Aa na ca, .int .i64 S, .slice Ab nb cb, .slice Ap np cp, .slice Ah nh ch] 40)) 27 #[.int .i64 7, .int .i64 d, .int .i64 a, .int .i64 b, .int .i64 i])
  have HG0 := Lib.hid ((Bk.new w 40 #[.slice Ai ni ci, .int .i64 V, .int .i64 K, .slice Aa na ca, .int .i64 S, .slice Ab nb cb, .slice Ap np cp, .slice Ah nh ch]).below (bla (Below.refl _ _) (.cells #[.int .i64 7, .int .i64 d, .int .i64 a, .int .i64 b, .int .i64 i] 27)))
  rw [size_alloc] at HO0
  cases h1 : Gr.inn i 4
  · have H1 := Lib.hid h1
    clear h1
    go_enter Try.func119, Try.ntmps119
    go_wp2_with fail
    refine (gbelow_any i 4 _ H1.out _).mono ?_
    rintro e w1 ⟨rfl, rfl⟩
    have HB1 := HB0
    go_wp2
    go_ret
    exact ⟨ret_bool (Eq.symm (by rw [← HR.out, Gr.opOk_7]; exact (by decide : ∀ p0 p1 p2 p3 : Bool, (p0) = false → (p0 && p1 && p2 && p3) = false) (Gr.inn i 4) (Gr.zer d) (Gr.zer a) (Gr.zer b) H1.out)), HB1.out⟩
  · have H1 := Lib.hid h1
    clear h1
    cases h2 : ([d, a, b].all Gr.zer)
    · have H2 := Lib.hid h2
      clear h2
      go_enter Try.func119, Try.ntmps119
      go_wp2_with fail
      refine (gbelow_any i 4 _ H1.out _).mono ?_
      rintro e w1 ⟨rfl, rfl⟩
      have HB1 := HB0
      have HO1 := HO0
      have HG1 := HG0
      go_wp2_with fail
      refine (rop2_any [d, a, b] _ _ H2.out _ (nums_new _ [d, a, b] _ _ _ (by simp)) (by simp [maxLen])).mono ?_
      rintro e w2 ⟨rfl, hb2⟩
      have HB2 := Lib.hid (blt (bla HB1.out _) hb2)
      go_wp2
      go_ret
      exact ⟨ret_bool (Eq.symm (by rw [← HR.out, Gr.opOk_7]; exact (by decide : ∀ p0 p1 p2 p3 : Bool, (p0) = true → (p1 && (p2 && (p3 && true))) = false → (p0 && p1 && p2 && p3) = false) (Gr.inn i 4) (Gr.zer d) (Gr.zer a) (Gr.zer b) H1.out H2.out)), HB2.out⟩
    · have H2 := Lib.hid h2
      clear h2
      go_enter Try.func119, Try.ntmps119
      go_wp2_with fail
      refine (gbelow_any i 4 _ H1.out _).mono ?_
      rintro e w1 ⟨rfl, rfl⟩
      have HB1 := HB0
      have HO1 := HO0
      have HG1 := HG0
      go_wp2_with fail
      refine (rop2_any [d, a, b] _ _ H2.out _ (nums_new _ [d, a, b] _ _ _ (by simp)) (by simp [maxLen])).mono ?_
      rintro e w2 ⟨rfl, hb2⟩
      have HB2 := Lib.hid (blt (bla HB1.out _) hb2)
      go_wp2
      go_ret
      exact ⟨ret_bool (Eq.symm (by rw [← HR.out, Gr.opOk_7]; exact (by decide : ∀ p0 p1 p2 p3 : Bool, (p0) = true → (p1 && (p2 && (p3 && true))) = true → (p0 && p1 && p2 && p3) = true) (Gr.inn i 4) (Gr.zer d) (Gr.zer a) (Gr.zer b) H1.out H2.out)), HB2.out⟩
end Go.Proofs.Ytojnhdkclabkgaa
