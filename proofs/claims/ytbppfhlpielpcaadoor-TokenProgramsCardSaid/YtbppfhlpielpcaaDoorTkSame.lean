/- The specification's Same answers true for lists of tokens that agree. -/
import Derived.Test.YtbppfhlpielpcaaDoorTkRefScan
namespace Go.Proofs.YtbppfhlpielpcaaDoor
open Go.RowKit Go.Maps Go.WideMaps Go.WideElems Tk
set_option linter.unusedVariables false
set_option maxRecDepth 100000

def Alike (lines : Bool) (T U : List Tok) : Prop := T.length = U.length ∧ ∀ (i : Nat) (a b : Tok), T[i]? = some a → U[i]? = some b → a.kind = b.kind ∧ a.num = b.num ∧ a.text = b.text ∧ (lines = true → a.line = b.line)
theorem alike_refl (lines : Bool) (T : List Tok) : Alike lines T T := ⟨rfl, fun i a b h1 h2 => by rw [h1] at h2; cases h2; exact ⟨rfl, rfl, rfl, fun _ => rfl⟩⟩
theorem rows_at (T : List Tok) (i c : Nat) (t : Tok) (h : T[i]? = some t) (hc : c < 4) : (rows T)[i * 4 + c]? = (cells t)[c]? := by
  induction T generalizing i with
  | nil => simp at h
  | cons x r ih =>
    have e : rows (x :: r) = cells x ++ rows r := by simp [rows]
    have hx : (cells x).length = 4 := rfl
    rw [e]
    cases i with
    | zero =>
      simp only [List.getElem?_cons_zero, Option.some.injEq] at h
      subst h
      rw [List.getElem?_append_left (by omega)]; simp
    | succ j =>
      rw [List.getElem?_append_right (by omega), hx]
      have := ih j (by simpa using h)
      rw [← this]
      congr 1
      omega
theorem trow_cell {w : World} {B g n cap : Nat} {T : List Tok} (h : w.ownsRow B 44 4 (.slice (some ⟨g, 0, none⟩) n cap) T.length (rows T)) (i : Nat) (t : Tok) (hi : T[i]? = some t) :
    w.cell? ⟨g, i * 4, none⟩ = some (.int .i64 t.kind) ∧ w.cell? ⟨g, i * 4 + 1, none⟩ = some (.int .i64 t.num) ∧ w.cell? ⟨g, i * 4 + 2, none⟩ = some (.int .i64 t.line) ∧ w.cell? ⟨g, i * 4 + 3, none⟩ = some (.string (mk t.text)) := by
  have hc := fun (c : Nat) (u : Value) (hc : c < 4) (hu : (cells t)[c]? = some u) => h.cells (g := g) rfl (i * 4 + c) u ((rows_at T i c t hi hc).trans hu)
  have e : ∀ j, (⟨g, 0, none⟩ : Addr).add j = ⟨g, j, none⟩ := fun j => by simp [Addr.add]; exact fun h => h.symm
  have h0 := hc 0 _ (by omega) rfl
  have h1 := hc 1 _ (by omega) rfl
  have h2 := hc 2 _ (by omega) rfl
  have h3 := hc 3 _ (by omega) rfl
  rw [e] at h0 h1 h2 h3
  exact ⟨h0, h1, h2, h3⟩
theorem own_slice {w : World} {B size n : Nat} {e : TypeId} {v : Value} {xs : List Value} (h : w.ownsRow B e size v n xs) (hn : 0 < n) : ∃ g cap, v = .slice (some ⟨g, 0, none⟩) n cap := by
  rcases h.2 with ⟨_, h0⟩ | ⟨g, cap, cur, rfl, _⟩
  · omega
  · exact ⟨g, cap, rfl⟩
theorem own_nil {w : World} {B size : Nat} {e : TypeId} {v : Value} {xs : List Value} (h : w.ownsRow B e size v 0 xs) : ∃ g cap, v = .slice g 0 cap := by
  rcases h.2 with ⟨rfl, h0⟩ | ⟨g, cap, cur, rfl, _⟩
  · exact ⟨none, 0, rfl⟩
  · exact ⟨_, cap, rfl⟩
set_option maxHeartbeats 1000000 in
theorem same_any (lines : Bool) (B1 B2 : Nat) (v1 v2 : Value) (T U : List Tok) (w : World) (h1 : w.ownsRow B1 44 4 v1 T.length (rows T)) (h2 : w.ownsRow B2 44 4 v2 U.length (rows U)) (hA : Alike lines T U)
    (hmax : T.length ≤ maxLen) :
    Calls Tryd.prog 12 #[v1, v2, .bool lines] w fun e w' => e = .returned (.bool true) ∧ ∃ n, w' = w.drewN n := by
  unfold maxLen at hmax
  have hlen : U.length = T.length := hA.1.symm
  by_cases h0 : T.length = 0
  · rw [hlen] at h2
    rw [h0] at h1 h2
    obtain ⟨g1, c1, rfl⟩ := own_nil h1
    obtain ⟨g2, c2, rfl⟩ := own_nil h2
    clear h1 h2 hA hlen hmax h0
    go_enter Tryd.func12, Tryd.ntmps12
    go_wp2
    go_loop [7] (fun i => i = .int .i64 0) (fun i => 0)
    case atStart => exact rfl
    case round =>
      subst hrel
      go_wp2
      go_ret
      exact ⟨rfl, 0, rfl⟩
  · obtain ⟨g1, c1, rfl⟩ := own_slice h1 (by omega)
    obtain ⟨g2, c2, rfl⟩ := own_slice h2 (by omega)
    obtain ⟨len, hl⟩ : ∃ len, T.length = len := ⟨_, rfl⟩
    have H1 := Lib.hid h1
    have H2 := Lib.hid h2
    rw [hl] at hmax h0 hlen
    rw [hl, hlen]
    have HL := Lib.hid hl
    have HU := Lib.hid hlen
    have HA := Lib.hid hA
    clear h1 h2 hl hlen hA
    go_enter Tryd.func12, Tryd.ntmps12
    go_wp2
    go_loopw [7] (fun i wr => ∃ k n : Nat, k ≤ len ∧ i = .int .i64 k ∧ Hid (wr = w.drewN n)) (fun i _ => len - (intOf i).toNat)
    case atStart => exact ⟨0, 0, by omega, rfl, Lib.hid (World.drewN_zero _).symm⟩
    case round =>
      obtain ⟨k, n, hk, rfl, hw⟩ := hrel
      have hw' := hw.out
      subst hw'
      clear hw
      by_cases hlt : k < len
      · obtain ⟨a, ha⟩ : ∃ a, T[k]? = some a := ⟨T[k]'(by rw [HL.out]; exact hlt), List.getElem?_eq_getElem _⟩
        obtain ⟨b, hb⟩ : ∃ b, U[k]? = some b := ⟨U[k]'(by rw [HU.out]; exact hlt), List.getElem?_eq_getElem _⟩
        obtain ⟨e1, e2, e3, e4⟩ := HA.out.2 k a b ha hb
        obtain ⟨p0, p1, p2, p3⟩ := trow_cell H1.out k a ha
        obtain ⟨q0, q1, q2, q3⟩ := trow_cell H2.out k b hb
        rw [← e1] at q0
        rw [← e2] at q1
        rw [← e3] at q3
        obtain ⟨ka, na, la, ta⟩ := a
        obtain ⟨kb, nb, lb, tb⟩ := b
        simp only at p0 p1 p2 p3 q0 q1 q2 q3 e4
        clear e1 e2 e3 ha hb
        have hlt' : (k : Int) < len := by omega
        cases lines
        · clear e4
          go_wp2_with fail
          go_quiet (fail)
          go_wp2
          go_roundw
          case rel => exact ⟨k + 1, _, by omega, by go_num, Lib.hid rfl⟩
          case measure => simp [intOf]; omega
        · have e5 := e4 rfl
          subst e5
          clear e4
          go_wp2_with fail
          go_quiet (fail)
          go_wp2
          go_roundw
          case rel => exact ⟨k + 1, _, by omega, by go_num, Lib.hid rfl⟩
          case measure => simp [intOf]; omega
      · go_wp2
        go_ret
        exact ⟨rfl, n, rfl⟩
end Go.Proofs.YtbppfhlpielpcaaDoor
