/- Layer 11's awake: the example of the chapter. No condition. -/
import Derived.Test.YtpinncjnfbebkaaFcAdd
import Derived.Test.YtpinncjnfbebkaaFcMap
import Derived.Test.YtpinncjnfbebkaaFcPts
import Derived.Test.YtpinncjnfbebkaaPlSame
import Derived.Test.YtpinncjnfbebkaaFaSums
namespace Go.Proofs.Ytpinncjnfbebkaa
open Go.RowKit
set_option linter.unusedVariables false
set_option linter.unusedSimpArgs false
attribute [local go_sem] y_undef
namespace Fa
def exF : Tms := [(2, 1), (5, -3)]
def exT : List (List Int) := [[], [], [4, 7], [], [], [1]]
def exC : List Int := [0, 0, 3, 0, 0, 1]
def exG : Tms := [(1, -3), (4, 1), (7, 1)]
theorem ex_map : mapR exF 0 exT = (exG, 0, 0) := by decide +kernel
theorem ex_holds : holds exF 0 exC = true := by decide +kernel
end Fa
/-- A slice over a block that is known whole. -/
theorem prs_blk {w : World} {g : Nat} {t : TypeId} {l : Fa.Tms} (h : Bk w g t (l.flatMap prCells).toArray) : PrsIn w (.slice (some ⟨g, 0, none⟩) l.length l.length) l :=
  ⟨_, _, rfl, flat_length prCells 2 (fun _ => rfl) l, .inr ⟨g, 0, rfl, h.lt, fun j u hu => by rw [Nat.zero_add, h.cell]; simpa using hu⟩⟩
theorem nums_blk {w : World} {g : Nat} {t : TypeId} {l : List Int} (h : Bk w g t (l.map (Value.int .i64)).toArray) : NumsIn w (.slice (some ⟨g, 0, none⟩) l.length l.length) l :=
  ⟨_, _, rfl, by simp, .inr ⟨g, 0, rfl, h.lt, fun j u hu => by rw [Nat.zero_add, h.cell]; simpa using hu⟩⟩
theorem bk_alloc {w : World} {g : Nat} {t : TypeId} {cs : Array Value} (h : Bk w g t cs) (o : Obj) : Bk (w.alloc o) g t cs := h.below ((Below.refl _ _).alloc (Nat.le_refl _) o)
theorem bk_new' {w : World} {g : Nat} {t : TypeId} {cs : Array Value} (h : g = w.heap.size) : Bk (w.alloc (.cells cs t)) g t cs := by subst h; exact Bk.new w t cs
theorem nums_nil (w : World) : NumsIn w (.slice none 0 0) [] := ⟨none, 0, rfl, by simp, .inl rfl⟩
/-- The world in which the example is mapped. -/
def exW (w : World) : World := ((((w.alloc (.cells #[.int .i64 2, .int .i64 1, .int .i64 5, .int .i64 (-3)] 36)).alloc (.cells #[.slice (some ⟨w.heap.size, 0, none⟩) 2 2, .int .i64 0] 30)).alloc (.cells #[.int .i64 4, .int .i64 7] 3)).alloc (.cells #[.int .i64 1] 3)).alloc
  (.cells #[.slice none 0 0, .slice none 0 0, .slice (some ⟨w.heap.size + 1 + 1, 0, none⟩) 2 2, .slice none 0 0, .slice none 0 0, .slice (some ⟨w.heap.size + 1 + 1 + 1, 0, none⟩) 1 1] 22)
theorem exW_below (w : World) : Below w.heap.size w (exW w) := (((((Below.refl _ _).alloc (Nat.le_refl _) _).alloc (by simp) _).alloc (by simp; omega) _).alloc (by simp; omega) _).alloc (by simp; omega) _
theorem exW_prs (w : World) : PrsIn (exW w) (.slice (some ⟨w.heap.size, 0, none⟩) 2 2) Fa.exF := prs_blk (l := Fa.exF) (t := 36) (bk_alloc (bk_alloc (bk_alloc (bk_alloc (Bk.new w _ _) _) _) _) _)
theorem exW_box (w : World) : Bk (exW w) (w.heap.size + 1) 30 #[.slice (some ⟨w.heap.size, 0, none⟩) 2 2, .int .i64 0] := bk_alloc (bk_alloc (bk_alloc (bk_new' (by simp)) _) _) _
theorem exW_lsts (w : World) : LstsIn (exW w) (.slice (some ⟨w.heap.size + 1 + 1 + 1 + 1, 0, none⟩) 6 6) Fa.exT := by
  have hB : Bk (exW w) (w.heap.size + 1 + 1 + 1 + 1) 22 #[.slice none 0 0, .slice none 0 0, .slice (some ⟨w.heap.size + 1 + 1, 0, none⟩) 2 2, .slice none 0 0, .slice none 0 0, .slice (some ⟨w.heap.size + 1 + 1 + 1, 0, none⟩) 1 1] := bk_new' (by simp)
  have h2 : NumsIn (exW w) (.slice (some ⟨w.heap.size + 1 + 1, 0, none⟩) 2 2) [4, 7] := nums_blk (l := [4, 7]) (t := 3) (bk_alloc (bk_alloc (bk_new' (by simp)) _) _)
  have h5 : NumsIn (exW w) (.slice (some ⟨w.heap.size + 1 + 1 + 1, 0, none⟩) 1 1) [1] := nums_blk (l := [1]) (t := 3) (bk_alloc (bk_new' (by simp)) _)
  refine ⟨_, 6, rfl, fun i hi => ?_⟩
  have hi6 : i < 6 := hi
  have hi' : i = 0 ∨ i = 1 ∨ i = 2 ∨ i = 3 ∨ i = 4 ∨ i = 5 := by omega
  rcases hi' with rfl | rfl | rfl | rfl | rfl | rfl
  · exact ⟨_, 0, _, rfl, hB.lt, hB.cell 0, nums_nil _⟩
  · exact ⟨_, 0, _, rfl, hB.lt, hB.cell 1, nums_nil _⟩
  · exact ⟨_, 0, _, rfl, hB.lt, hB.cell 2, h2⟩
  · exact ⟨_, 0, _, rfl, hB.lt, hB.cell 3, nums_nil _⟩
  · exact ⟨_, 0, _, rfl, hB.lt, hB.cell 4, nums_nil _⟩
  · exact ⟨_, 0, _, rfl, hB.lt, hB.cell 5, h5⟩
set_option maxRecDepth 100000 in
set_option maxHeartbeats 4000000 in
theorem awake_any (w : World) : Calls Try.prog 9 #[] w fun e w' => e = .returned (.bool true) ∧ Below w.heap.size w w' := by
  have HC := Lib.hid (fmap_any Fa.exF 0 _ Fa.exT _ _ (exW w) (exW_prs w) (by decide) (exW_lsts w) (by decide) (by decide) Fa.ex_map)
  have HB := Lib.hid (exW_below w)
  have HP := Lib.hid (And.intro (exW_prs w) (exW_box w))
  have HW := Lib.hid (show exW w = _ from rfl)
  go_enter Try.func9, Try.ntmps9
  go_wp2_with fail
  refine HC.out.mono ?_
  rintro e w1 ⟨v', rfl, hown, hb⟩
  obtain ⟨A, c, rfl, _⟩ := RowIn.own hown
  have HP1 := Lib.hid (show PrsIn w1 (.slice A 3 c) Fa.exG from RowIn.own hown)
  have HB1 := Lib.hid (HB.out.trans (hb.mono HB.out.size))
  have HF := Lib.hid (And.intro (HP.out.1.below hb) (HP.out.2.below hb))
  clear hown hb HC HP HB HW
  have HD := Lib.hid (rsame_any Fa.exG 0 (.slice A 3 c) (.slice (some ⟨w1.heap.size + 1, 0, none⟩) 3 3) ((w1.alloc (.cells #[.slice A 3 c, .int .i64 0] 30)).alloc (.cells #[.int .i64 1, .int .i64 (-3), .int .i64 4, .int .i64 1, .int .i64 7, .int .i64 1] 36))
    ((HP1.out.below ((Below.refl _ _).alloc (Nat.le_refl _) _)).below ((Below.refl _ _).alloc (Nat.le_refl _) _)) (prs_blk (l := Fa.exG) (t := 36) (bk_new' (by simp))) (by decide))
  go_wp2_with fail
  refine HD.out.mono ?_
  rintro e w2 ⟨rfl, hb⟩
  have HB2 := Lib.hid (show Below w1.heap.size w1 w2 from (((Below.refl _ _).alloc (Nat.le_refl _) _).alloc (by simp) _).trans (hb.mono (by simp; omega)))
  have hbox := (HF.out.2.below HB2.out)
  have HE := Lib.hid (fholds_any Fa.exF 0 (.slice (some ⟨w.heap.size, 0, none⟩) 2 2) Fa.exC (.slice (some ⟨w2.heap.size, 0, none⟩) 6 6) true (w2.alloc (.cells #[.int .i64 0, .int .i64 0, .int .i64 3, .int .i64 0, .int .i64 0, .int .i64 1] 3))
    ((HF.out.1.below HB2.out).below ((Below.refl _ _).alloc (Nat.le_refl _) _)) (by decide) (nums_blk (l := Fa.exC) (t := 3) (bk_new' rfl)) (by decide) Fa.ex_holds)
  have q0 : w2.cell? ⟨w.heap.size + 1, 0, none⟩ = some (.slice (some ⟨w.heap.size, 0, none⟩) 2 2) := hbox.cell 0
  have q1 : w2.cell? ⟨w.heap.size + 1, 1, none⟩ = some (.int .i64 0) := hbox.cell 1
  have HB3 := Lib.hid (HB1.out.trans (HB2.out.mono HB1.out.size))
  clear hb hbox HD
  go_wp2_with fail
  refine HE.out.mono ?_
  rintro e w3 ⟨rfl, hb⟩
  have HB4 := Lib.hid (HB3.out.trans ((((Below.refl _ _).alloc (Nat.le_refl _) _).trans (hb.mono (by simp))).mono HB3.out.size))
  clear hb
  go_wp2
  go_ret
  exact ⟨rfl, HB4.out⟩
end Go.Proofs.Ytpinncjnfbebkaa
