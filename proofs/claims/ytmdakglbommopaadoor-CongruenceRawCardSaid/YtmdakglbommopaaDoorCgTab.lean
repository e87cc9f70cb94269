/- From the library's table as a row lists it to the cells of the world. No condition. -/
import Derived.Test.YtmdakglbommopaaDoorCcBase
import Derived.Lib.LaidTab
import Derived.FnData
namespace Go.Proofs.YtmdakglbommopaaDoor
open Go.RowKit
theorem tb_of {W : World} (h : Lib.TabIs Tryd.prog W "math/bits.deBruijn64tab" .u8 (Lib.deBruijn64tab.map Int.ofNat)) : Tb W := by
  have hg : Tryd.prog.globalNamed "math/bits.deBruijn64tab" = some 1 := by kernel_rfl
  unfold Lib.TabIs at h
  have h2 := h
  unfold World.var? at h2
  simp only [hg, Option.bind_some] at h2
  have hlt : 1 < W.heap.size := by
    rcases Nat.lt_or_ge 1 W.heap.size with h' | h'
    · exact h'
    · rw [Array.getElem?_eq_none h'] at h2; simp at h2
  refine ⟨fun j hj => ?_, hlt⟩
  rw [World.var?_cell hg h j]
  simp only [List.getElem?_toArray, List.getElem?_map, List.map_map]
  rw [List.getElem?_eq_getElem hj]
  simp only [Option.map_some, Function.comp, List.getD, List.getElem?_eq_getElem hj, Option.getD_some]
  rfl
end Go.Proofs.YtmdakglbommopaaDoor
