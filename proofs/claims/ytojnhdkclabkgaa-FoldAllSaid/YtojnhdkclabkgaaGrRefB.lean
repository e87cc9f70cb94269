/- The specification of layer 12: which operations are right. No condition. -/
import Derived.Test.YtojnhdkclabkgaaGrRefA
import Derived.Test.YtojnhdkclabkgaaGrCodeC
import Derived.BigRegion
namespace Go.Proofs.Ytojnhdkclabkgaa
open Go.RowKit
set_option linter.unusedVariables false
set_option linter.unusedSimpArgs false
attribute [local go_sem] y_undef
theorem zer_eq {z : Int} {r : Bool} (h : Gr.zer z = r) : (z == 0) = r := by
  subst h
  unfold Gr.zer
  by_cases h : z = 0 <;> simp [h]
theorem bel3 (w : World) (a b c : Obj) : Below w.heap.size w (((w.alloc a).alloc b).alloc c) := bla (bla (bla (Below.refl _ _) _) _) _
theorem bel3d (w : World) (a b c : Obj) : Below w.heap.size w (((w.alloc a).alloc b).alloc c).drew := (bel3 w a b c).trans (below_drewN _ _ 1)
set_option maxRecDepth 100000 in
set_option maxHeartbeats 8000000 in
theorem rp_k1 (Ai Aa Ab Ap Ah : Option Addr) (ni ci na ca nb cb np cp nh ch : Nat) (V K S : Int) (hna : na ≤ maxLen) (d a b i : Int) (r : Bool) (hr : Gr.opOk V na ⟨1, d, a, b, i⟩ = r) (w : World) :
    Calls Try.prog 92 #[.agg #[.slice Ai ni ci, .int .i64 V, .int .i64 K, .slice Aa na ca, .int .i64 S, .slice Ab nb cb, .slice Ap np cp, .slice Ah nh ch], .agg #[.int .i64 1, .int .i64 d, .int .i64 a, .int .i64 b, .int .i64 i]] w fun e w' => e = .returned (.bool r) ∧ Below w.heap.size w w' := by
  have HR := Lib.hid hr
  unfold maxLen at hna
  clear hr
  cases h0 : Gr.zer a
  · have e0 := zer_eq h0
    have H0 := Lib.hid h0
    clear h0
    go_enter Try.func92, Try.ntmps92
    go_wp2
    go_region
    go_wp2
    go_ret
    exact ⟨ret_bool (Eq.symm (by rw [← HR.out, Gr.opOk_1]; exact (by decide : ∀ p0 p1 p2 p3 : Bool, p2 = false → (p0 && p1 && p2 && p3) = false) (Gr.inn d V) (Gr.isW i) (Gr.zer a) (Gr.zer b) H0.out)), by first | exact bel3 _ _ _ _ | exact bel3d _ _ _ _⟩
  · have e0 := zer_eq h0
    have H0 := Lib.hid h0
    clear h0
    cases h1 : Gr.zer b
    · have e1 := zer_eq h1
      have H1 := Lib.hid h1
      clear h1
      go_enter Try.func92, Try.ntmps92
      go_wp2
      go_region
      go_wp2
      go_ret
      exact ⟨ret_bool (Eq.symm (by rw [← HR.out, Gr.opOk_1]; exact (by decide : ∀ p0 p1 p2 p3 : Bool, p2 = true → p3 = false → (p0 && p1 && p2 && p3) = false) (Gr.inn d V) (Gr.isW i) (Gr.zer a) (Gr.zer b) H0.out H1.out)), by first | exact bel3 _ _ _ _ | exact bel3d _ _ _ _⟩
    · have e1 := zer_eq h1
      have H1 := Lib.hid h1
      clear h1
      cases h2 : Gr.inn d V
      · have H2 := Lib.hid h2
        clear h2
        go_enter Try.func92, Try.ntmps92
        go_wp2
        go_region
        go_wp2_with fail
        refine (rin_any d V _ H2.out _).mono ?_
        rintro e w2 ⟨rfl, rfl⟩
        go_wp2
        go_ret
        exact ⟨ret_bool (Eq.symm (by rw [← HR.out, Gr.opOk_1]; exact (by decide : ∀ p0 p1 p2 p3 : Bool, p2 = true → p3 = true → p0 = false → (p0 && p1 && p2 && p3) = false) (Gr.inn d V) (Gr.isW i) (Gr.zer a) (Gr.zer b) H0.out H1.out H2.out)), by first | exact bel3 _ _ _ _ | exact bel3d _ _ _ _⟩
      · have H2 := Lib.hid h2
        clear h2
        cases h3 : Gr.isW i
        · have H3 := Lib.hid h3
          clear h3
          go_enter Try.func92, Try.ntmps92
          go_wp2
          go_region
          go_wp2_with fail
          refine (rin_any d V _ H2.out _).mono ?_
          rintro e w2 ⟨rfl, rfl⟩
          go_wp2_with fail
          refine (rword_any i _ H3.out _).mono ?_
          rintro e w3 ⟨rfl, rfl⟩
          go_wp2
          go_ret
          exact ⟨ret_bool (Eq.symm (by rw [← HR.out, Gr.opOk_1]; exact (by decide : ∀ p0 p1 p2 p3 : Bool, p2 = true → p3 = true → p0 = true → p1 = false → (p0 && p1 && p2 && p3) = false) (Gr.inn d V) (Gr.isW i) (Gr.zer a) (Gr.zer b) H0.out H1.out H2.out H3.out)), by first | exact bel3 _ _ _ _ | exact bel3d _ _ _ _⟩
        · have H3 := Lib.hid h3
          clear h3
          go_enter Try.func92, Try.ntmps92
          go_wp2
          go_region
          go_wp2_with fail
          refine (rin_any d V _ H2.out _).mono ?_
          rintro e w2 ⟨rfl, rfl⟩
          go_wp2_with fail
          refine (rword_any i _ H3.out _).mono ?_
          rintro e w3 ⟨rfl, rfl⟩
          go_wp2
          go_ret
          exact ⟨ret_bool (Eq.symm (by rw [← HR.out, Gr.opOk_1]; exact (by decide : ∀ p0 p1 p2 p3 : Bool, p2 = true → p3 = true → p0 = true → p1 = true → (p0 && p1 && p2 && p3) = true) (Gr.inn d V) (Gr.isW i) (Gr.zer a) (Gr.zer b) H0.out H1.out H2.out H3.out)), by first | exact bel3 _ _ _ _ | exact bel3d _ _ _ _⟩
set_option maxRecDepth 100000 in
set_option maxHeartbeats 8000000 in
theorem rp_k2 (Ai Aa Ab Ap Ah : Option Addr) (ni ci na ca nb cb np cp nh ch : Nat) (V K S : Int) (hna : na ≤ maxLen) (d a b i : Int) (r : Bool) (hr : Gr.opOk V na ⟨2, d, a, b, i⟩ = r) (w : World) :
    Calls Try.prog 92 #[.agg #[.slice Ai ni ci, .int .i64 V, .int .i64 K, .slice Aa na ca, .int .i64 S, .slice Ab nb cb, .slice Ap np cp, .slice Ah nh ch], .agg #[.int .i64 2, .int .i64 d, .int .i64 a, .int .i64 b, .int .i64 i]] w fun e w' => e = .returned (.bool r) ∧ Below w.heap.size w w' := by
  have HR := Lib.hid hr
  unfold maxLen at hna
  clear hr
  cases h0 : Gr.zer b
  · have e0 := zer_eq h0
    have H0 := Lib.hid h0
    clear h0
    go_enter Try.func92, Try.ntmps92
    go_wp2
    go_region
    go_wp2
    go_ret
    exact ⟨ret_bool (Eq.symm (by rw [← HR.out, Gr.opOk_2]; exact (by decide : ∀ p0 p1 p2 p3 : Bool, p2 = false → (p0 && p1 && p2 && p3) = false) (Gr.inn d V) (Gr.inn a V) (Gr.zer b) (Gr.zer i) H0.out)), by first | exact bel3 _ _ _ _ | exact bel3d _ _ _ _⟩
  · have e0 := zer_eq h0
    have H0 := Lib.hid h0
    clear h0
    cases h1 : Gr.zer i
    · have e1 := zer_eq h1
      have H1 := Lib.hid h1
      clear h1
      go_enter Try.func92, Try.ntmps92
      go_wp2
      go_region
      go_wp2
      go_ret
      exact ⟨ret_bool (Eq.symm (by rw [← HR.out, Gr.opOk_2]; exact (by decide : ∀ p0 p1 p2 p3 : Bool, p2 = true → p3 = false → (p0 && p1 && p2 && p3) = false) (Gr.inn d V) (Gr.inn a V) (Gr.zer b) (Gr.zer i) H0.out H1.out)), by first | exact bel3 _ _ _ _ | exact bel3d _ _ _ _⟩
    · have e1 := zer_eq h1
      have H1 := Lib.hid h1
      clear h1
      cases h2 : Gr.inn d V
      · have H2 := Lib.hid h2
        clear h2
        go_enter Try.func92, Try.ntmps92
        go_wp2
        go_region
        go_wp2_with fail
        refine (rin_any d V _ H2.out _).mono ?_
        rintro e w2 ⟨rfl, rfl⟩
        go_wp2
        go_ret
        exact ⟨ret_bool (Eq.symm (by rw [← HR.out, Gr.opOk_2]; exact (by decide : ∀ p0 p1 p2 p3 : Bool, p2 = true → p3 = true → p0 = false → (p0 && p1 && p2 && p3) = false) (Gr.inn d V) (Gr.inn a V) (Gr.zer b) (Gr.zer i) H0.out H1.out H2.out)), by first | exact bel3 _ _ _ _ | exact bel3d _ _ _ _⟩
      · have H2 := Lib.hid h2
        clear h2
        cases h3 : Gr.inn a V
        · have H3 := Lib.hid h3
          clear h3
          go_enter Try.func92, Try.ntmps92
          go_wp2
          go_region
          go_wp2_with fail
          refine (rin_any d V _ H2.out _).mono ?_
          rintro e w2 ⟨rfl, rfl⟩
          go_wp2_with fail
          refine (rin_any a V _ H3.out _).mono ?_
          rintro e w3 ⟨rfl, rfl⟩
          go_wp2
          go_ret
          exact ⟨ret_bool (Eq.symm (by rw [← HR.out, Gr.opOk_2]; exact (by decide : ∀ p0 p1 p2 p3 : Bool, p2 = true → p3 = true → p0 = true → p1 = false → (p0 && p1 && p2 && p3) = false) (Gr.inn d V) (Gr.inn a V) (Gr.zer b) (Gr.zer i) H0.out H1.out H2.out H3.out)), by first | exact bel3 _ _ _ _ | exact bel3d _ _ _ _⟩
        · have H3 := Lib.hid h3
          clear h3
          go_enter Try.func92, Try.ntmps92
          go_wp2
          go_region
          go_wp2_with fail
          refine (rin_any d V _ H2.out _).mono ?_
          rintro e w2 ⟨rfl, rfl⟩
          go_wp2_with fail
          refine (rin_any a V _ H3.out _).mono ?_
          rintro e w3 ⟨rfl, rfl⟩
          go_wp2
          go_ret
          exact ⟨ret_bool (Eq.symm (by rw [← HR.out, Gr.opOk_2]; exact (by decide : ∀ p0 p1 p2 p3 : Bool, p2 = true → p3 = true → p0 = true → p1 = true → (p0 && p1 && p2 && p3) = true) (Gr.inn d V) (Gr.inn a V) (Gr.zer b) (Gr.zer i) H0.out H1.out H2.out H3.out)), by first | exact bel3 _ _ _ _ | exact bel3d _ _ _ _⟩
set_option maxRecDepth 100000 in
set_option maxHeartbeats 8000000 in
theorem rp_k3 (Ai Aa Ab Ap Ah : Option Addr) (ni ci na ca nb cb np cp nh ch : Nat) (V K S : Int) (hna : na ≤ maxLen) (d a b i : Int) (r : Bool) (hr : Gr.opOk V na ⟨3, d, a, b, i⟩ = r) (w : World) :
    Calls Try.prog 92 #[.agg #[.slice Ai ni ci, .int .i64 V, .int .i64 K, .slice Aa na ca, .int .i64 S, .slice Ab nb cb, .slice Ap np cp, .slice Ah nh ch], .agg #[.int .i64 3, .int .i64 d, .int .i64 a, .int .i64 b, .int .i64 i]] w fun e w' => e = .returned (.bool r) ∧ Below w.heap.size w w' := by
  have HR := Lib.hid hr
  unfold maxLen at hna
  clear hr
  cases h0 : Gr.inn d V
  · have H0 := Lib.hid h0
    clear h0
    go_enter Try.func92, Try.ntmps92
    go_wp2_with fail
    refine (rin_any d V _ H0.out _).mono ?_
    rintro e w0 ⟨rfl, rfl⟩
    go_wp2
    go_ret
    exact ⟨ret_bool (Eq.symm (by rw [← HR.out, Gr.opOk_3]; exact (by decide : ∀ p0 p1 p2 p3 : Bool, p0 = false → (p0 && p1 && p2 && p3) = false) (Gr.inn d V) (Gr.inn a V) (Gr.inn b V) (Gr.knw i) H0.out)), by first | exact bel3 _ _ _ _ | exact bel3d _ _ _ _⟩
  · have H0 := Lib.hid h0
    clear h0
    cases h1 : Gr.inn a V
    · have H1 := Lib.hid h1
      clear h1
      go_enter Try.func92, Try.ntmps92
      go_wp2_with fail
      refine (rin_any d V _ H0.out _).mono ?_
      rintro e w0 ⟨rfl, rfl⟩
      go_wp2_with fail
      refine (rin_any a V _ H1.out _).mono ?_
      rintro e w1 ⟨rfl, rfl⟩
      go_wp2
      go_ret
      exact ⟨ret_bool (Eq.symm (by rw [← HR.out, Gr.opOk_3]; exact (by decide : ∀ p0 p1 p2 p3 : Bool, p0 = true → p1 = false → (p0 && p1 && p2 && p3) = false) (Gr.inn d V) (Gr.inn a V) (Gr.inn b V) (Gr.knw i) H0.out H1.out)), by first | exact bel3 _ _ _ _ | exact bel3d _ _ _ _⟩
    · have H1 := Lib.hid h1
      clear h1
      cases h2 : Gr.inn b V
      · have H2 := Lib.hid h2
        clear h2
        go_enter Try.func92, Try.ntmps92
        go_wp2_with fail
        refine (rin_any d V _ H0.out _).mono ?_
        rintro e w0 ⟨rfl, rfl⟩
        go_wp2_with fail
        refine (rin_any a V _ H1.out _).mono ?_
        rintro e w1 ⟨rfl, rfl⟩
        go_wp2_with fail
        refine (rin_any b V _ H2.out _).mono ?_
        rintro e w2 ⟨rfl, rfl⟩
        go_wp2
        go_ret
        exact ⟨ret_bool (Eq.symm (by rw [← HR.out, Gr.opOk_3]; exact (by decide : ∀ p0 p1 p2 p3 : Bool, p0 = true → p1 = true → p2 = false → (p0 && p1 && p2 && p3) = false) (Gr.inn d V) (Gr.inn a V) (Gr.inn b V) (Gr.knw i) H0.out H1.out H2.out)), by first | exact bel3 _ _ _ _ | exact bel3d _ _ _ _⟩
      · have H2 := Lib.hid h2
        clear h2
        cases h3 : Gr.knw i
        · have H3 := Lib.hid h3
          clear h3
          go_enter Try.func92, Try.ntmps92
          go_wp2_with fail
          refine (rin_any d V _ H0.out _).mono ?_
          rintro e w0 ⟨rfl, rfl⟩
          go_wp2_with fail
          refine (rin_any a V _ H1.out _).mono ?_
          rintro e w1 ⟨rfl, rfl⟩
          go_wp2_with fail
          refine (rin_any b V _ H2.out _).mono ?_
          rintro e w2 ⟨rfl, rfl⟩
          go_wp2_with fail
          refine (rknown_any i _ H3.out _).mono ?_
          rintro e w3 ⟨rfl, rfl⟩
          go_wp2
          go_ret
          exact ⟨ret_bool (Eq.symm (by rw [← HR.out, Gr.opOk_3]; exact (by decide : ∀ p0 p1 p2 p3 : Bool, p0 = true → p1 = true → p2 = true → p3 = false → (p0 && p1 && p2 && p3) = false) (Gr.inn d V) (Gr.inn a V) (Gr.inn b V) (Gr.knw i) H0.out H1.out H2.out H3.out)), by first | exact bel3 _ _ _ _ | exact bel3d _ _ _ _⟩
        · have H3 := Lib.hid h3
          clear h3
          go_enter Try.func92, Try.ntmps92
          go_wp2_with fail
          refine (rin_any d V _ H0.out _).mono ?_
          rintro e w0 ⟨rfl, rfl⟩
          go_wp2_with fail
          refine (rin_any a V _ H1.out _).mono ?_
          rintro e w1 ⟨rfl, rfl⟩
          go_wp2_with fail
          refine (rin_any b V _ H2.out _).mono ?_
          rintro e w2 ⟨rfl, rfl⟩
          go_wp2_with fail
          refine (rknown_any i _ H3.out _).mono ?_
          rintro e w3 ⟨rfl, rfl⟩
          go_wp2
          go_ret
          exact ⟨ret_bool (Eq.symm (by rw [← HR.out, Gr.opOk_3]; exact (by decide : ∀ p0 p1 p2 p3 : Bool, p0 = true → p1 = true → p2 = true → p3 = true → (p0 && p1 && p2 && p3) = true) (Gr.inn d V) (Gr.inn a V) (Gr.inn b V) (Gr.knw i) H0.out H1.out H2.out H3.out)), by first | exact bel3 _ _ _ _ | exact bel3d _ _ _ _⟩
set_option maxRecDepth 100000 in
set_option maxHeartbeats 8000000 in
theorem rp_k4 (Ai Aa Ab Ap Ah : Option Addr) (ni ci na ca nb cb np cp nh ch : Nat) (V K S : Int) (hna : na ≤ maxLen) (d a b i : Int) (r : Bool) (hr : Gr.opOk V na ⟨4, d, a, b, i⟩ = r) (w : World) :
    Calls Try.prog 92 #[.agg #[.slice Ai ni ci, .int .i64 V, .int .i64 K, .slice Aa na ca, .int .i64 S, .slice Ab nb cb, .slice Ap np cp, .slice Ah nh ch], .agg #[.int .i64 4, .int .i64 d, .int .i64 a, .int .i64 b, .int .i64 i]] w fun e w' => e = .returned (.bool r) ∧ Below w.heap.size w w' := by
  have HR := Lib.hid hr
  unfold maxLen at hna
  clear hr
  cases h0 : Gr.zer b
  · have e0 := zer_eq h0
    have H0 := Lib.hid h0
    clear h0
    go_enter Try.func92, Try.ntmps92
    go_wp2
    go_region
    go_wp2
    go_ret
    exact ⟨ret_bool (Eq.symm (by rw [← HR.out, Gr.opOk_4]; exact (by decide : ∀ p0 p1 p2 p3 : Bool, p3 = false → (p0 && p1 && p2 && p3) = false) (Gr.inn d V) (Gr.inn a V) (Gr.inn i (na : Int)) (Gr.zer b) H0.out)), by first | exact bel3 _ _ _ _ | exact bel3d _ _ _ _⟩
  · have e0 := zer_eq h0
    have H0 := Lib.hid h0
    clear h0
    cases h1 : Gr.inn d V
    · have H1 := Lib.hid h1
      clear h1
      go_enter Try.func92, Try.ntmps92
      go_wp2
      go_region
      go_wp2_with fail
      refine (rin_any d V _ H1.out _).mono ?_
      rintro e w1 ⟨rfl, rfl⟩
      go_wp2
      go_ret
      exact ⟨ret_bool (Eq.symm (by rw [← HR.out, Gr.opOk_4]; exact (by decide : ∀ p0 p1 p2 p3 : Bool, p3 = true → p0 = false → (p0 && p1 && p2 && p3) = false) (Gr.inn d V) (Gr.inn a V) (Gr.inn i (na : Int)) (Gr.zer b) H0.out H1.out)), by first | exact bel3 _ _ _ _ | exact bel3d _ _ _ _⟩
    · have H1 := Lib.hid h1
      clear h1
      cases h2 : Gr.inn a V
      · have H2 := Lib.hid h2
        clear h2
        go_enter Try.func92, Try.ntmps92
        go_wp2
        go_region
        go_wp2_with fail
        refine (rin_any d V _ H1.out _).mono ?_
        rintro e w1 ⟨rfl, rfl⟩
        go_wp2_with fail
        refine (rin_any a V _ H2.out _).mono ?_
        rintro e w2 ⟨rfl, rfl⟩
        go_wp2
        go_ret
        exact ⟨ret_bool (Eq.symm (by rw [← HR.out, Gr.opOk_4]; exact (by decide : ∀ p0 p1 p2 p3 : Bool, p3 = true → p0 = true → p1 = false → (p0 && p1 && p2 && p3) = false) (Gr.inn d V) (Gr.inn a V) (Gr.inn i (na : Int)) (Gr.zer b) H0.out H1.out H2.out)), by first | exact bel3 _ _ _ _ | exact bel3d _ _ _ _⟩
      · have H2 := Lib.hid h2
        clear h2
        cases h3 : Gr.inn i (na : Int)
        · have H3 := Lib.hid h3
          clear h3
          go_enter Try.func92, Try.ntmps92
          go_wp2
          go_region
          go_wp2_with fail
          refine (rin_any d V _ H1.out _).mono ?_
          rintro e w1 ⟨rfl, rfl⟩
          go_wp2_with fail
          refine (rin_any a V _ H2.out _).mono ?_
          rintro e w2 ⟨rfl, rfl⟩
          go_wp2_with fail
          refine (rin_any i (na : Int) _ H3.out _).mono ?_
          rintro e w3 ⟨rfl, rfl⟩
          go_wp2
          go_ret
          exact ⟨ret_bool (Eq.symm (by rw [← HR.out, Gr.opOk_4]; exact (by decide : ∀ p0 p1 p2 p3 : Bool, p3 = true → p0 = true → p1 = true → p2 = false → (p0 && p1 && p2 && p3) = false) (Gr.inn d V) (Gr.inn a V) (Gr.inn i (na : Int)) (Gr.zer b) H0.out H1.out H2.out H3.out)), by first | exact bel3 _ _ _ _ | exact bel3d _ _ _ _⟩
        · have H3 := Lib.hid h3
          clear h3
          go_enter Try.func92, Try.ntmps92
          go_wp2
          go_region
          go_wp2_with fail
          refine (rin_any d V _ H1.out _).mono ?_
          rintro e w1 ⟨rfl, rfl⟩
          go_wp2_with fail
          refine (rin_any a V _ H2.out _).mono ?_
          rintro e w2 ⟨rfl, rfl⟩
          go_wp2_with fail
          refine (rin_any i (na : Int) _ H3.out _).mono ?_
          rintro e w3 ⟨rfl, rfl⟩
          go_wp2
          go_ret
          exact ⟨ret_bool (Eq.symm (by rw [← HR.out, Gr.opOk_4]; exact (by decide : ∀ p0 p1 p2 p3 : Bool, p3 = true → p0 = true → p1 = true → p2 = true → (p0 && p1 && p2 && p3) = true) (Gr.inn d V) (Gr.inn a V) (Gr.inn i (na : Int)) (Gr.zer b) H0.out H1.out H2.out H3.out)), by first | exact bel3 _ _ _ _ | exact bel3d _ _ _ _⟩
set_option maxRecDepth 100000 in
set_option maxHeartbeats 8000000 in
theorem rp_k5 (Ai Aa Ab Ap Ah : Option Addr) (ni ci na ca nb cb np cp nh ch : Nat) (V K S : Int) (hna : na ≤ maxLen) (d a b i : Int) (r : Bool) (hr : Gr.opOk V na ⟨5, d, a, b, i⟩ = r) (w : World) :
    Calls Try.prog 92 #[.agg #[.slice Ai ni ci, .int .i64 V, .int .i64 K, .slice Aa na ca, .int .i64 S, .slice Ab nb cb, .slice Ap np cp, .slice Ah nh ch], .agg #[.int .i64 5, .int .i64 d, .int .i64 a, .int .i64 b, .int .i64 i]] w fun e w' => e = .returned (.bool r) ∧ Below w.heap.size w w' := by
  have HR := Lib.hid hr
  unfold maxLen at hna
  clear hr
  cases h0 : Gr.zer d
  · have e0 := zer_eq h0
    have H0 := Lib.hid h0
    clear h0
    go_enter Try.func92, Try.ntmps92
    go_wp2
    go_region
    go_wp2
    go_ret
    exact ⟨ret_bool (Eq.symm (by rw [← HR.out, Gr.opOk_5]; exact (by decide : ∀ p0 p1 p2 p3 : Bool, p3 = false → (p0 && p1 && p2 && p3) = false) (Gr.inn a V) (Gr.inn b V) (Gr.inn i (na : Int)) (Gr.zer d) H0.out)), by first | exact bel3 _ _ _ _ | exact bel3d _ _ _ _⟩
  · have e0 := zer_eq h0
    have H0 := Lib.hid h0
    clear h0
    cases h1 : Gr.inn a V
    · have H1 := Lib.hid h1
      clear h1
      go_enter Try.func92, Try.ntmps92
      go_wp2
      go_region
      go_wp2_with fail
      refine (rin_any a V _ H1.out _).mono ?_
      rintro e w1 ⟨rfl, rfl⟩
      go_wp2
      go_ret
      exact ⟨ret_bool (Eq.symm (by rw [← HR.out, Gr.opOk_5]; exact (by decide : ∀ p0 p1 p2 p3 : Bool, p3 = true → p0 = false → (p0 && p1 && p2 && p3) = false) (Gr.inn a V) (Gr.inn b V) (Gr.inn i (na : Int)) (Gr.zer d) H0.out H1.out)), by first | exact bel3 _ _ _ _ | exact bel3d _ _ _ _⟩
    · have H1 := Lib.hid h1
      clear h1
      cases h2 : Gr.inn b V
      · have H2 := Lib.hid h2
        clear h2
        go_enter Try.func92, Try.ntmps92
        go_wp2
        go_region
        go_wp2_with fail
        refine (rin_any a V _ H1.out _).mono ?_
        rintro e w1 ⟨rfl, rfl⟩
        go_wp2_with fail
        refine (rin_any b V _ H2.out _).mono ?_
        rintro e w2 ⟨rfl, rfl⟩
        go_wp2
        go_ret
        exact ⟨ret_bool (Eq.symm (by rw [← HR.out, Gr.opOk_5]; exact (by decide : ∀ p0 p1 p2 p3 : Bool, p3 = true → p0 = true → p1 = false → (p0 && p1 && p2 && p3) = false) (Gr.inn a V) (Gr.inn b V) (Gr.inn i (na : Int)) (Gr.zer d) H0.out H1.out H2.out)), by first | exact bel3 _ _ _ _ | exact bel3d _ _ _ _⟩
      · have H2 := Lib.hid h2
        clear h2
        cases h3 : Gr.inn i (na : Int)
        · have H3 := Lib.hid h3
          clear h3
          go_enter Try.func92, Try.ntmps92
          go_wp2
          go_region
          go_wp2_with fail
          refine (rin_any a V _ H1.out _).mono ?_
          rintro e w1 ⟨rfl, rfl⟩
          go_wp2_with fail
          refine (rin_any b V _ H2.out _).mono ?_
          rintro e w2 ⟨rfl, rfl⟩
          go_wp2_with fail
          refine (rin_any i (na : Int) _ H3.out _).mono ?_
          rintro e w3 ⟨rfl, rfl⟩
          go_wp2
          go_ret
          exact ⟨ret_bool (Eq.symm (by rw [← HR.out, Gr.opOk_5]; exact (by decide : ∀ p0 p1 p2 p3 : Bool, p3 = true → p0 = true → p1 = true → p2 = false → (p0 && p1 && p2 && p3) = false) (Gr.inn a V) (Gr.inn b V) (Gr.inn i (na : Int)) (Gr.zer d) H0.out H1.out H2.out H3.out)), by first | exact bel3 _ _ _ _ | exact bel3d _ _ _ _⟩
        · have H3 := Lib.hid h3
          clear h3
          go_enter Try.func92, Try.ntmps92
          go_wp2
          go_region
          go_wp2_with fail
          refine (rin_any a V _ H1.out _).mono ?_
          rintro e w1 ⟨rfl, rfl⟩
          go_wp2_with fail
          refine (rin_any b V _ H2.out _).mono ?_
          rintro e w2 ⟨rfl, rfl⟩
          go_wp2_with fail
          refine (rin_any i (na : Int) _ H3.out _).mono ?_
          rintro e w3 ⟨rfl, rfl⟩
          go_wp2
          go_ret
          exact ⟨ret_bool (Eq.symm (by rw [← HR.out, Gr.opOk_5]; exact (by decide : ∀ p0 p1 p2 p3 : Bool, p3 = true → p0 = true → p1 = true → p2 = true → (p0 && p1 && p2 && p3) = true) (Gr.inn a V) (Gr.inn b V) (Gr.inn i (na : Int)) (Gr.zer d) H0.out H1.out H2.out H3.out)), by first | exact bel3 _ _ _ _ | exact bel3d _ _ _ _⟩
set_option maxRecDepth 100000 in
set_option maxHeartbeats 8000000 in
theorem rp_k6 (Ai Aa Ab Ap Ah : Option Addr) (ni ci na ca nb cb np cp nh ch : Nat) (V K S : Int) (hna : na ≤ maxLen) (d a b i : Int) (r : Bool) (hr : Gr.opOk V na ⟨6, d, a, b, i⟩ = r) (w : World) :
    Calls Try.prog 92 #[.agg #[.slice Ai ni ci, .int .i64 V, .int .i64 K, .slice Aa na ca, .int .i64 S, .slice Ab nb cb, .slice Ap np cp, .slice Ah nh ch], .agg #[.int .i64 6, .int .i64 d, .int .i64 a, .int .i64 b, .int .i64 i]] w fun e w' => e = .returned (.bool r) ∧ Below w.heap.size w w' := by
  have HR := Lib.hid hr
  unfold maxLen at hna
  clear hr
  cases h0 : Gr.zer d
  · have e0 := zer_eq h0
    have H0 := Lib.hid h0
    clear h0
    go_enter Try.func92, Try.ntmps92
    go_wp2
    go_ret
    exact ⟨ret_bool (Eq.symm (by rw [← HR.out, Gr.opOk_6]; exact (by decide : ∀ p0 p1 p2 p3 : Bool, p1 = false → (p0 && p1 && p2 && p3) = false) (Gr.inn i 4) (Gr.zer d) (Gr.zer a) (Gr.zer b) H0.out)), by first | exact bel3 _ _ _ _ | exact bel3d _ _ _ _⟩
  · have e0 := zer_eq h0
    have H0 := Lib.hid h0
    clear h0
    cases h1 : Gr.zer a
    · have e1 := zer_eq h1
      have H1 := Lib.hid h1
      clear h1
      go_enter Try.func92, Try.ntmps92
      go_wp2
      go_ret
      exact ⟨ret_bool (Eq.symm (by rw [← HR.out, Gr.opOk_6]; exact (by decide : ∀ p0 p1 p2 p3 : Bool, p1 = true → p2 = false → (p0 && p1 && p2 && p3) = false) (Gr.inn i 4) (Gr.zer d) (Gr.zer a) (Gr.zer b) H0.out H1.out)), by first | exact bel3 _ _ _ _ | exact bel3d _ _ _ _⟩
    · have e1 := zer_eq h1
      have H1 := Lib.hid h1
      clear h1
      cases h2 : Gr.zer b
      · have e2 := zer_eq h2
        have H2 := Lib.hid h2
        clear h2
        go_enter Try.func92, Try.ntmps92
        go_wp2
        go_ret
        exact ⟨ret_bool (Eq.symm (by rw [← HR.out, Gr.opOk_6]; exact (by decide : ∀ p0 p1 p2 p3 : Bool, p1 = true → p2 = true → p3 = false → (p0 && p1 && p2 && p3) = false) (Gr.inn i 4) (Gr.zer d) (Gr.zer a) (Gr.zer b) H0.out H1.out H2.out)), by first | exact bel3 _ _ _ _ | exact bel3d _ _ _ _⟩
      · have e2 := zer_eq h2
        have H2 := Lib.hid h2
        clear h2
        cases h3 : Gr.inn i 4
        · have H3 := Lib.hid h3
          clear h3
          go_enter Try.func92, Try.ntmps92
          go_wp2_with fail
          refine (rin_any i 4 _ H3.out _).mono ?_
          rintro e w3 ⟨rfl, rfl⟩
          go_wp2
          go_ret
          exact ⟨ret_bool (Eq.symm (by rw [← HR.out, Gr.opOk_6]; exact (by decide : ∀ p0 p1 p2 p3 : Bool, p1 = true → p2 = true → p3 = true → p0 = false → (p0 && p1 && p2 && p3) = false) (Gr.inn i 4) (Gr.zer d) (Gr.zer a) (Gr.zer b) H0.out H1.out H2.out H3.out)), by first | exact bel3 _ _ _ _ | exact bel3d _ _ _ _⟩
        · have H3 := Lib.hid h3
          clear h3
          go_enter Try.func92, Try.ntmps92
          go_wp2_with fail
          refine (rin_any i 4 _ H3.out _).mono ?_
          rintro e w3 ⟨rfl, rfl⟩
          go_wp2
          go_ret
          exact ⟨ret_bool (Eq.symm (by rw [← HR.out, Gr.opOk_6]; exact (by decide : ∀ p0 p1 p2 p3 : Bool, p1 = true → p2 = true → p3 = true → p0 = true → (p0 && p1 && p2 && p3) = true) (Gr.inn i 4) (Gr.zer d) (Gr.zer a) (Gr.zer b) H0.out H1.out H2.out H3.out)), by first | exact bel3 _ _ _ _ | exact bel3d _ _ _ _⟩
set_option maxRecDepth 100000 in
set_option maxHeartbeats 8000000 in
theorem rp_k7 (Ai Aa Ab Ap Ah : Option Addr) (ni ci na ca nb cb np cp nh ch : Nat) (V K S : Int) (hna : na ≤ maxLen) (d a b i : Int) (r : Bool) (hr : Gr.opOk V na ⟨7, d, a, b, i⟩ = r) (w : World) :
    Calls Try.prog 92 #[.agg #[.slice Ai ni ci, .int .i64 V, .int .i64 K, .slice Aa na ca, .int .i64 S, .slice Ab nb cb, .slice Ap np cp, .slice Ah nh ch], .agg #[.int .i64 7, .int .i64 d, .int .i64 a, .int .i64 b, .int .i64 i]] w fun e w' => e = .returned (.bool r) ∧ Below w.heap.size w w' := by
  have HR := Lib.hid hr
  unfold maxLen at hna
  clear hr
  cases h0 : Gr.zer d
  · have e0 := zer_eq h0
    have H0 := Lib.hid h0
    clear h0
    go_enter Try.func92, Try.ntmps92
    go_wp2
    go_ret
    exact ⟨ret_bool (Eq.symm (by rw [← HR.out, Gr.opOk_7]; exact (by decide : ∀ p0 p1 p2 p3 : Bool, p1 = false → (p0 && p1 && p2 && p3) = false) (Gr.inn i 4) (Gr.zer d) (Gr.zer a) (Gr.zer b) H0.out)), by first | exact bel3 _ _ _ _ | exact bel3d _ _ _ _⟩
  · have e0 := zer_eq h0
    have H0 := Lib.hid h0
    clear h0
    cases h1 : Gr.zer a
    · have e1 := zer_eq h1
      have H1 := Lib.hid h1
      clear h1
      go_enter Try.func92, Try.ntmps92
      go_wp2
      go_ret
      exact ⟨ret_bool (Eq.symm (by rw [← HR.out, Gr.opOk_7]; exact (by decide : ∀ p0 p1 p2 p3 : Bool, p1 = true → p2 = false → (p0 && p1 && p2 && p3) = false) (Gr.inn i 4) (Gr.zer d) (Gr.zer a) (Gr.zer b) H0.out H1.out)), by first | exact bel3 _ _ _ _ | exact bel3d _ _ _ _⟩
    · have e1 := zer_eq h1
      have H1 := Lib.hid h1
      clear h1
      cases h2 : Gr.zer b
      · have e2 := zer_eq h2
        have H2 := Lib.hid h2
        clear h2
        go_enter Try.func92, Try.ntmps92
        go_wp2
        go_ret
        exact ⟨ret_bool (Eq.symm (by rw [← HR.out, Gr.opOk_7]; exact (by decide : ∀ p0 p1 p2 p3 : Bool, p1 = true → p2 = true → p3 = false → (p0 && p1 && p2 && p3) = false) (Gr.inn i 4) (Gr.zer d) (Gr.zer a) (Gr.zer b) H0.out H1.out H2.out)), by first | exact bel3 _ _ _ _ | exact bel3d _ _ _ _⟩
      · have e2 := zer_eq h2
        have H2 := Lib.hid h2
        clear h2
        cases h3 : Gr.inn i 4
        · have H3 := Lib.hid h3
          clear h3
          go_enter Try.func92, Try.ntmps92
          go_wp2_with fail
          refine (rin_any i 4 _ H3.out _).mono ?_
          rintro e w3 ⟨rfl, rfl⟩
          go_wp2
          go_ret
          exact ⟨ret_bool (Eq.symm (by rw [← HR.out, Gr.opOk_7]; exact (by decide : ∀ p0 p1 p2 p3 : Bool, p1 = true → p2 = true → p3 = true → p0 = false → (p0 && p1 && p2 && p3) = false) (Gr.inn i 4) (Gr.zer d) (Gr.zer a) (Gr.zer b) H0.out H1.out H2.out H3.out)), by first | exact bel3 _ _ _ _ | exact bel3d _ _ _ _⟩
        · have H3 := Lib.hid h3
          clear h3
          go_enter Try.func92, Try.ntmps92
          go_wp2_with fail
          refine (rin_any i 4 _ H3.out _).mono ?_
          rintro e w3 ⟨rfl, rfl⟩
          go_wp2
          go_ret
          exact ⟨ret_bool (Eq.symm (by rw [← HR.out, Gr.opOk_7]; exact (by decide : ∀ p0 p1 p2 p3 : Bool, p1 = true → p2 = true → p3 = true → p0 = true → (p0 && p1 && p2 && p3) = true) (Gr.inn i 4) (Gr.zer d) (Gr.zer a) (Gr.zer b) H0.out H1.out H2.out H3.out)), by first | exact bel3 _ _ _ _ | exact bel3d _ _ _ _⟩
set_option maxRecDepth 100000 in
set_option maxHeartbeats 4000000 in
theorem rp_any (Ai Aa Ab Ap Ah : Option Addr) (ni ci na ca nb cb np cp nh ch : Nat) (V K S : Int) (hna : na ≤ maxLen) (kd d a b i : Int) (r : Bool) (hr : Gr.opOk V na ⟨kd, d, a, b, i⟩ = r) (w : World) :
    Calls Try.prog 92 #[.agg #[.slice Ai ni ci, .int .i64 V, .int .i64 K, .slice Aa na ca, .int .i64 S, .slice Ab nb cb, .slice Ap np cp, .slice Ah nh ch], .agg #[.int .i64 kd, .int .i64 d, .int .i64 a, .int .i64 b, .int .i64 i]] w fun e w' => e = .returned (.bool r) ∧ Below w.heap.size w w' := by
  by_cases h : kd = 1 ∨ kd = 2 ∨ kd = 3 ∨ kd = 4 ∨ kd = 5 ∨ kd = 6 ∨ kd = 7
  · rcases h with rfl | rfl | rfl | rfl | rfl | rfl | rfl
    · exact rp_k1 Ai Aa Ab Ap Ah ni ci na ca nb cb np cp nh ch V K S hna d a b i r hr w
    · exact rp_k2 Ai Aa Ab Ap Ah ni ci na ca nb cb np cp nh ch V K S hna d a b i r hr w
    · exact rp_k3 Ai Aa Ab Ap Ah ni ci na ca nb cb np cp nh ch V K S hna d a b i r hr w
    · exact rp_k4 Ai Aa Ab Ap Ah ni ci na ca nb cb np cp nh ch V K S hna d a b i r hr w
    · exact rp_k5 Ai Aa Ab Ap Ah ni ci na ca nb cb np cp nh ch V K S hna d a b i r hr w
    · exact rp_k6 Ai Aa Ab Ap Ah ni ci na ca nb cb np cp nh ch V K S hna d a b i r hr w
    · exact rp_k7 Ai Aa Ab Ap Ah ni ci na ca nb cb np cp nh ch V K S hna d a b i r hr w
  · have HR := Lib.hid ((Gr.opOk_no h).symm.trans hr)
    simp only [not_or] at h
    obtain ⟨h1, h2, h3, h4, h5, h6, h7⟩ := h
    have e1 : (kd == 1) = false := by simp [h1]
    have e2 : (kd == 2) = false := by simp [h2]
    have e3 : (kd == 3) = false := by simp [h3]
    have e4 : (kd == 4) = false := by simp [h4]
    have e5 : (kd == 5) = false := by simp [h5]
    have e6 : (kd == 6) = false := by simp [h6]
    have e7 : (kd == 7) = false := by simp [h7]
    clear h1 h2 h3 h4 h5 h6 h7 hr
    go_enter Try.func92, Try.ntmps92
    go_wp2
    go_ret
    exact ⟨ret_bool HR.out, bel3 _ _ _ _⟩
end Go.Proofs.Ytojnhdkclabkgaa
