/- The specification of layer 14: an operation of any kind, folded. No condition. -/
import Derived.Test.YtojflhkmonicoaaGreatFoRefD
import Derived.Test.YtojflhkmonicoaaGreatFoRefE
import Derived.Test.YtojflhkmonicoaaGreatFoRefF
import Derived.Test.YtojflhkmonicoaaGreatFoRefG
namespace Go.Proofs.YtojflhkmonicoaaGreat
open Go.RowKit
set_option linter.unusedVariables false
theorem rfold_any (V Bf Kb Wb Ob : Nat) (s : Fo.S) (fw : Nat → Int) (o : Gr.Op) (hg : Fo.Good V o) (hV : V ≤ 1000) (hok : Fo.Ok V s) (w : World) (h : Rf V Bf Kb Wb Ob s fw w) :
    Calls Tryz.prog 46 #[.pointer (some ⟨Bf, 0, none⟩), .agg #[.int .i64 o.kind, .int .i64 o.dst, .int .i64 o.a, .int .i64 o.b, .int .i64 o.imm]] w (RfPost V Bf Kb Wb Ob s o w) := by
  obtain ⟨k, d, a, b, i⟩ := o
  have hk := hg.kind
  have hd := hg.d4
  have ha := hg.a2
  have hb := hg.b3
  have hd0 := hg.dst.1
  have ha0 := hg.a.1
  have hb0 := hg.b.1
  simp only at hk hd ha hb hd0 ha0 hb0
  obtain ⟨d, rfl⟩ : ∃ n : Nat, d = (n : Int) := ⟨d.toNat, by omega⟩
  obtain ⟨a, rfl⟩ : ∃ n : Nat, a = (n : Int) := ⟨a.toNat, by omega⟩
  obtain ⟨b, rfl⟩ : ∃ n : Nat, b = (n : Int) := ⟨b.toNat, by omega⟩
  have h7 : k = 1 ∨ k = 2 ∨ k = 3 ∨ k = 4 ∨ k = 5 ∨ k = 6 ∨ k = 7 := by omega
  rcases h7 with rfl | rfl | rfl | rfl | rfl | rfl | rfl
  · exact rfold_1 V Bf Kb Wb Ob s fw d _ _ _ (by omega) hV hok w h
  · cases hx : s.wd (Fo.use s (a : Int)) with
    | some x => exact rfold_2c V Bf Kb Wb Ob s fw d a _ _ (by omega) (by omega) x hx hV hok w h
    | none =>
      by_cases e : Fo.use s (a : Int) = (d : Int)
      · exact rfold_2a V Bf Kb Wb Ob s fw d a _ _ (by omega) (by omega) hx e hV hok w h
      · exact rfold_2b V Bf Kb Wb Ob s fw d a _ _ (by omega) (by omega) hx e hV hok w h
  · cases hx : s.wd (Fo.use s (a : Int)) with
    | none => exact rfold_3a V Bf Kb Wb Ob s fw d a b _ (by omega) (by omega) (by omega) hx hV hok w h
    | some x =>
      cases hy : s.wd (Fo.use s (b : Int)) with
      | none => exact rfold_3b V Bf Kb Wb Ob s fw d a b _ (by omega) (by omega) (by omega) x hx hy hV hok w h
      | some y => exact rfold_3c V Bf Kb Wb Ob s fw d a b _ (by omega) (by omega) (by omega) x y hx hy hV hok w h
  · exact rfold_4 V Bf Kb Wb Ob s fw d a _ _ (by omega) (by omega) hV hok w h
  · exact rfold_5 V Bf Kb Wb Ob s fw a b _ _ (by omega) (by omega) hV hok w h
  · exact rfold_6 V Bf Kb Wb Ob s fw _ _ _ _ w h
  · exact rfold_7 V Bf Kb Wb Ob s fw _ _ _ _ w h
end Go.Proofs.YtojflhkmonicoaaGreat
