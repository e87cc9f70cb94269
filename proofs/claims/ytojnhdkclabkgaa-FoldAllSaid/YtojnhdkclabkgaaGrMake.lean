/- make of rows of booleans and integers. No condition. -/
import Derived.Test.YtojnhdkclabkgaaGrParts
namespace Go.Proofs.Ytojnhdkclabkgaa
open Go.RowKit
set_option linter.unusedVariables false
set_option linter.unusedSimpArgs false
theorem minfo_boo : (Try.prog.info? 4).map (fun i => (i.zero, i.size, i.bytes)) = some (some (.bool false), 1, 1) := by kernel_rfl
theorem minfo_int : (Try.prog.info? 3).map (fun i => (i.zero, i.size, i.bytes)) = some (some (.int .i64 0), 1, 8) := by kernel_rfl
theorem slRow_ones (n : Nat) (z : Value) (hz : z.cells = #[z]) : madeCells z.cells n = slRow n (fun _ => z) := by
  rw [hz]
  unfold madeCells
  apply Array.ext
  · simp [slRow_size]
  · intro a ha hb
    have h := slRow_cell n (fun _ => z) (show a < n by simpa using ha)
    rw [Array.getElem?_eq_getElem hb] at h
    injection h with h
    rw [h, Array.getElem_map, Array.getElem_range]
    show (#[z])[a % 1]! = _
    rw [Nat.mod_one]
    rfl
theorem mk_bools (n : Nat) (hn : n ≤ 1000) (u : World) : (Instr.makeSlice 65 (.int .i64 (n : Int)) (.int .i64 (n : Int))).run Try.prog u = .ok (.slice (some ⟨u.heap.size, 0, none⟩) n n) (u.alloc (.cells (slRow n (fun _ => .bool false)) 4)) := by
  obtain ⟨i, hi, hz, hs, hby⟩ := info_parts minfo_boo
  have h := run_make (P := Try.prog) u 65 4 i _ Try.underlying65 hi hz .i64 .i64 n n (by omega) (by omega) (by rw [hby]; omega) (by omega)
  rw [h, hs, Int.toNat_natCast, Nat.mul_one, slRow_ones _ _ (by kernel_rfl)]
theorem mk_ints (n : Nat) (hn : n ≤ 1000) (u : World) : (Instr.makeSlice 32 (.int .i64 (n : Int)) (.int .i64 (n : Int))).run Try.prog u = .ok (.slice (some ⟨u.heap.size, 0, none⟩) n n) (u.alloc (.cells (slRow n (fun _ => .int .i64 0)) 3)) := by
  obtain ⟨i, hi, hz, hs, hby⟩ := info_parts minfo_int
  have h := run_make (P := Try.prog) u 32 3 i _ Try.underlying32 hi hz .i64 .i64 n n (by omega) (by omega) (by rw [hby]; omega) (by omega)
  rw [h, hs, Int.toNat_natCast, Nat.mul_one, slRow_ones _ _ (by kernel_rfl)]
/-- A row of zeros, as numbers. -/
theorem slRow_nums (n : Nat) : slRow n (fun _ => .int .i64 0) = ((List.replicate n (0 : Int)).map (Value.int .i64)).toArray := by
  unfold slRow
  congr 1
  rw [List.map_replicate]
  apply List.ext_getElem (by simp)
  intro i h1 h2
  simp
end Go.Proofs.Ytojnhdkclabkgaa
