/-
  DERIVED. GIVEN WITH THE SEED: THE CARDS: each row of YtbppfhlpielpcaaDoorRows.lean that lists a variable, with what it lists TIED to the program's text (the seventh form; the later family's looks); each row that meets fmt, with fmt's text TOLD by the authors' own Lean function (tested against real Go, not proved from fmt's source: count such statements apart). THE CARD IS WHAT COUNTS. Prove the row's statement (the work); the ties are given (YtbppfhlpielpcaaDoorTie.lean); close each card by the builder's one call (the guide's Derived/Test/ToyasCard.lean, 'card_holds'). Laid BY PROGRAM, IN A SANDBOX (cutbox-door.mjs). By AI agents, Wed Nov 11 2026. No macro, syntax, notation, axiom, sorry.
-/
import Derived.Test.YtbppfhlpielpcaaDoorRows
import GoSem.ClaimSeven
namespace Go.Proofs.YtbppfhlpielpcaaDoor
namespace Rows

/-- THE TIED CARD OF 'timeboundlaw02.TokenPrograms'. -/
def tokenProgramsCard : Claim7 := { stood := { row := tokenProgramsRow, standIns := [], harness := (true, "6a396d4305f6d056c3031135ecc039150d787adc4c27b72b70912d6e128b927e"), looks := false }, kinds := [], alts := [], laidByText := true, laidKinds := [.data, .data, .data], laidTests := true, laidLooks := .later }
def TokenProgramsCardSaid : Prop := Claim7.holds Tryd.pinned (.plain (OpenSpec.ofChange tokenProgramsSpec)) tokenProgramsCard

/-- THE SECOND FORM's CARD OF 'timeboundlaw02.TokenPrograms'. -/
def tokenProgramsUptoCard : Claim7 := { stood := { row := tokenProgramsUptoRow, standIns := [], harness := (true, "6a396d4305f6d056c3031135ecc039150d787adc4c27b72b70912d6e128b927e"), looks := false }, kinds := [], alts := [], laidByText := true, laidKinds := [.data, .data, .data], laidTests := true, laidLooks := .later }
def TokenProgramsUptoCardSaid : Prop := Claim7.holds Tryd.pinned (.plain (OpenSpec.upto tokenProgramsSpec)) tokenProgramsUptoCard
end Rows
end Go.Proofs.YtbppfhlpielpcaaDoor
