/-
  DERIVED. GIVEN WITH THE SEED: THE CARDS: each row of YtgekmfcbbjeahaaGreatDoorRows.lean that lists a variable, with what it lists TIED to the program's text (the seventh form; the later family's looks); each row that meets fmt, with fmt's text TOLD by the authors' own Lean function (tested against real Go, not proved from fmt's source: count such statements apart). THE CARD IS WHAT COUNTS. Prove the row's statement (the work); the ties are given (YtgekmfcbbjeahaaGreatDoorTie.lean); close each card by the builder's one call (the guide's Derived/Test/ToyasCard.lean, 'card_holds'). Laid BY PROGRAM, IN A SANDBOX (cutbox-door.mjs). By AI agents, Wed Nov 11 2026. No macro, syntax, notation, axiom, sorry.
-/
import Derived.Test.YtgekmfcbbjeahaaGreatDoorRows
import GoSem.ClaimSeven
namespace Go.Proofs.YtgekmfcbbjeahaaGreatDoor
namespace Rows

/-- THE TIED CARD OF 'isochronelaw03.PolyRing'. -/
def polyRingCard : Claim7 := { stood := { row := polyRingRow, standIns := [], harness := (true, "f69920d9de66933e59e3e9a6249079b6afca8059815cd59c5723ff3120b69566"), looks := true }, kinds := [], alts := [], laidByText := true, laidKinds := [.data, .data, .data], laidTests := true, laidLooks := .later }
def PolyRingCardSaid : Prop := Claim7.holds Tryz.pinned (.plain (OpenSpec.ofChange polyRingSpec)) polyRingCard

/-- THE TIED CARD OF 'isochronelaw03.PolyParts'. -/
def polyPartsCard : Claim7 := { stood := { row := polyPartsRow, standIns := [], harness := (true, "f69920d9de66933e59e3e9a6249079b6afca8059815cd59c5723ff3120b69566"), looks := true }, kinds := [], alts := [], laidByText := true, laidKinds := [.data, .data, .data], laidTests := true, laidLooks := .later }
def PolyPartsCardSaid : Prop := Claim7.holds Tryz.pinned (.plain (OpenSpec.ofChange polyPartsSpec)) polyPartsCard

/-- THE TIED CARD OF 'isochronelaw03.PolyTexts'. -/
def polyTextsCard : Claim7 := { stood := { row := polyTextsRow, standIns := [], harness := (true, "f69920d9de66933e59e3e9a6249079b6afca8059815cd59c5723ff3120b69566"), looks := true }, kinds := [], alts := [], laidByText := true, laidKinds := [.data, .data, .data], laidTests := true, laidLooks := .later }
def PolyTextsCardSaid : Prop := Claim7.holds Tryz.pinned (.plain (OpenSpec.ofChange polyTextsSpec)) polyTextsCard

/-- THE TIED CARD OF 'isochronelaw03.PolyForms'. -/
def polyFormsCard : Claim7 := { stood := { row := polyFormsRow, standIns := [], harness := (true, "f69920d9de66933e59e3e9a6249079b6afca8059815cd59c5723ff3120b69566"), looks := true }, kinds := [], alts := [], laidByText := true, laidKinds := [.data, .data, .data, .data], laidTests := true, laidLooks := .later }
def PolyFormsCardSaid : Prop := Claim7.holds Tryz.pinned (.plain (OpenSpec.ofChange polyFormsSpec)) polyFormsCard

/-- THE TIED CARD OF 'isochronelaw03.PolyLimits'. -/
def polyLimitsCard : Claim7 := { stood := { row := polyLimitsRow, standIns := [], harness := (true, "f69920d9de66933e59e3e9a6249079b6afca8059815cd59c5723ff3120b69566"), looks := true }, kinds := [], alts := [], laidByText := true, laidKinds := [.data, .data, .data], laidTests := true, laidLooks := .later }
def PolyLimitsCardSaid : Prop := Claim7.holds Tryz.pinned (.plain (OpenSpec.ofChange polyLimitsSpec)) polyLimitsCard

/-- THE SECOND FORM's CARD OF 'isochronelaw03.PolyRing'. -/
def polyRingUptoCard : Claim7 := { stood := { row := polyRingUptoRow, standIns := [], harness := (true, "f69920d9de66933e59e3e9a6249079b6afca8059815cd59c5723ff3120b69566"), looks := true }, kinds := [], alts := [], laidByText := true, laidKinds := [.data, .data, .data], laidTests := true, laidLooks := .later }
def PolyRingUptoCardSaid : Prop := Claim7.holds Tryz.pinned (.plain (OpenSpec.upto polyRingSpec)) polyRingUptoCard

/-- THE SECOND FORM's CARD OF 'isochronelaw03.PolyParts'. -/
def polyPartsUptoCard : Claim7 := { stood := { row := polyPartsUptoRow, standIns := [], harness := (true, "f69920d9de66933e59e3e9a6249079b6afca8059815cd59c5723ff3120b69566"), looks := true }, kinds := [], alts := [], laidByText := true, laidKinds := [.data, .data, .data], laidTests := true, laidLooks := .later }
def PolyPartsUptoCardSaid : Prop := Claim7.holds Tryz.pinned (.plain (OpenSpec.upto polyPartsSpec)) polyPartsUptoCard

/-- THE SECOND FORM's CARD OF 'isochronelaw03.PolyTexts'. -/
def polyTextsUptoCard : Claim7 := { stood := { row := polyTextsUptoRow, standIns := [], harness := (true, "f69920d9de66933e59e3e9a6249079b6afca8059815cd59c5723ff3120b69566"), looks := true }, kinds := [], alts := [], laidByText := true, laidKinds := [.data, .data, .data], laidTests := true, laidLooks := .later }
def PolyTextsUptoCardSaid : Prop := Claim7.holds Tryz.pinned (.plain (OpenSpec.upto polyTextsSpec)) polyTextsUptoCard

/-- THE SECOND FORM's CARD OF 'isochronelaw03.PolyForms'. -/
def polyFormsUptoCard : Claim7 := { stood := { row := polyFormsUptoRow, standIns := [], harness := (true, "f69920d9de66933e59e3e9a6249079b6afca8059815cd59c5723ff3120b69566"), looks := true }, kinds := [], alts := [], laidByText := true, laidKinds := [.data, .data, .data, .data], laidTests := true, laidLooks := .later }
def PolyFormsUptoCardSaid : Prop := Claim7.holds Tryz.pinned (.plain (OpenSpec.upto polyFormsSpec)) polyFormsUptoCard

/-- THE SECOND FORM's CARD OF 'isochronelaw03.PolyLimits'. -/
def polyLimitsUptoCard : Claim7 := { stood := { row := polyLimitsUptoRow, standIns := [], harness := (true, "f69920d9de66933e59e3e9a6249079b6afca8059815cd59c5723ff3120b69566"), looks := true }, kinds := [], alts := [], laidByText := true, laidKinds := [.data, .data, .data], laidTests := true, laidLooks := .later }
def PolyLimitsUptoCardSaid : Prop := Claim7.holds Tryz.pinned (.plain (OpenSpec.upto polyLimitsSpec)) polyLimitsUptoCard
end Rows
end Go.Proofs.YtgekmfcbbjeahaaGreatDoor
