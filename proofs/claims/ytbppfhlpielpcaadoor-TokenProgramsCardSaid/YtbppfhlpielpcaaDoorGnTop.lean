/- The generator's Few, New and Program. -/
import Derived.Test.YtbppfhlpielpcaaDoorGnPg
namespace Go.Proofs.YtbppfhlpielpcaaDoor
open Go.RowKit
set_option linter.unusedVariables false
theorem few_any (v : Value) (zs : List Int) (b : Bool) (w : World) (h : IntsIn .i64 w v zs) (hm : zs.length ≤ maxLen) (hb : decide (zs.length ≤ 400) = b) : Calls Tryd.prog 4 #[v] w fun e w' => e = .returned (.bool b) ∧ w = w' := by
  have hi : decide ((zs.length : Int) ≤ 400) = b := by rw [← hb, decide_eq_decide]; omega
  have HI := Lib.hid hi
  obtain ⟨A, c, rfl⟩ : ∃ A c, v = .slice A zs.length c := by
    rcases h with ⟨rfl, A, c, rfl⟩ | ⟨b, off, c, _, rfl, _⟩
    · exact ⟨A, c, rfl⟩
    · exact ⟨_, c, rfl⟩
  clear hb hi h
  go_enter Tryd.func4, Tryd.ntmps4
  go_wp2
  go_ret
  exact ⟨by rw [← HI.out]; rfl, rfl⟩
theorem newdeck_any (v : Value) (zs : List Int) (w : World) (h : IntsIn .i64 w v zs) (hv : ∀ a n c, v = .slice (some a) n c → a.block < w.heap.size) (hm : zs.length ≤ maxLen) (hz : ∀ z ∈ zs, -9223372036854775808 ≤ z ∧ z ≤ 9223372036854775807) :
    Calls Tryd.prog 8 #[v] w fun e w' => e = .returned (.pointer (some ⟨w.heap.size, 0, none⟩)) ∧ Deck w' v zs w.heap.size ∧ Below w.heap.size w w' := by
  obtain ⟨A, c, e⟩ : ∃ A c, v = .slice A zs.length c := by
    rcases h with ⟨rfl, A, c, rfl⟩ | ⟨b, off, c, _, rfl, _⟩
    · exact ⟨A, c, rfl⟩
    · exact ⟨_, c, rfl⟩
  have hb : Below w.heap.size w (w.alloc (.cells #[v, .int .i64 0] 49)) := (Below.refl _ _).alloc (Nat.le_refl _) _
  have HD := Lib.hid (show Deck (w.alloc (.cells #[v, .int .i64 0] 49)) v zs w.heap.size from ⟨0, Nat.zero_le _, Blk.new _ _ _, h.below hb, hv, hm, hz⟩)
  clear h hv hm hz
  subst e
  go_enter Tryd.func8, Tryd.ntmps8
  go_wp2
  go_ret
  exact ⟨rfl, HD.out, hb⟩
set_option maxHeartbeats 1000000 in
theorem progmake_any (D : Nat) (v : Value) (zs : List Int) (w : World) (hd : Deck w v zs D) :
    Calls Tryd.prog 7 #[.pointer (some ⟨D, 0, none⟩), .int .i64 2] w fun e w' => PgPost D v zs w e w' := by
  have hb : Below w.heap.size w (w.alloc (.cells zPg 32)) := (Below.refl _ _).alloc (Nat.le_refl _) _
  have HC := Lib.hid (programs_any D v zs 2 300 14 (w.alloc (.cells zPg 32)) (hd.below hb) (by omega) (by omega) (by omega))
  have HB := Lib.hid hb
  have HL := Lib.hid hd.lt
  clear hb hd
  go_enter Tryd.func7, Tryd.ntmps7
  go_wp2_with fail
  refine HC.out.mono ?_
  rintro e W1 ⟨p, vv, rfl, hok, hat, hdk, hg⟩
  obtain ⟨A0, c0, A1, c1, A2, c2, xs, rfl, hrr⟩ := id hat
  have hrb : Blk W1 w.heap.size 32 zPg := (hg.block w.heap.size (by simp) (by have := HL.out; omega) (by have := HL.out; omega) (fun q => by simp at q; omega)).trans (Blk.new w _ _)
  have y0 : W1.cell? ⟨w.heap.size, 0, none⟩ = some (.slice none 0 0) := hrb.cell 0
  have y1 : W1.cell? ⟨w.heap.size, 1, none⟩ = some (.slice none 0 0) := hrb.cell 1
  have y2 : W1.cell? ⟨w.heap.size, 2, none⟩ = some (.slice none 0 0) := hrb.cell 2
  have f0 : W1.frozen? ⟨w.heap.size, 0, none⟩ = false := hrb.frozen 0
  have f1 : W1.frozen? ⟨w.heap.size, 1, none⟩ = false := hrb.frozen 1
  have f2 : W1.frozen? ⟨w.heap.size, 2, none⟩ = false := hrb.frozen 2
  have HH := Lib.hid (And.intro hok (And.intro hat (And.intro hdk (And.intro hg hrb))))
  clear hok hat hdk hg hrr hrb HC
  go_wp2
  have hk : ∀ b, b ≠ w.heap.size → (((W1.setCell ⟨w.heap.size, 0, none⟩ (.slice A0 p.resources.length c0)).setCell ⟨w.heap.size, 1, none⟩ (.slice A1 p.shared.length c1)).setCell ⟨w.heap.size, 2, none⟩ (.slice A2 p.tasks.length c2)).heap[b]? = W1.heap[b]? := fun b hb => by
    rw [Below.heap_setCell _ _ _ _ hb, Below.heap_setCell _ _ _ _ hb, Below.heap_setCell _ _ _ _ hb]
  have hl := HL.out
  obtain ⟨hok, hat, hdk, hg, _⟩ := HH.out
  refine bodyPost_ret (v := .agg #[.slice A0 p.resources.length c0, .slice A1 p.shared.length c1, .slice A2 p.tasks.length c2]) ?_ rfl ⟨p, _, rfl, hok, hat.keep (by simp) (fun b hb hlt => ⟨⟨hb.1, by have := hb.2; simp at this; omega⟩, fun f => World.cell?_of_block (hk b (by have := hb.2; simp at this; omega))⟩), hdk.keep (by simp) (hk _ (by omega)) (fun b hb => hk b (by omega)), ?_⟩
  · simp [results, Tryd.results7, go_sem, y0, y1, y2]
  · have hg0 : Gen D D w.heap.size w W1 := (Gen.below HB.out D D w.heap.size).trans (hg.only D w.heap.size |> fun h => h)
    exact ((hg0.set (p := ⟨w.heap.size, 0, none⟩) (.inr (.inr (Nat.le_refl _))) _).set (p := ⟨w.heap.size, 1, none⟩) (.inr (.inr (Nat.le_refl _))) _).set (p := ⟨w.heap.size, 2, none⟩) (.inr (.inr (Nat.le_refl _))) _
end Go.Proofs.YtbppfhlpielpcaaDoor
