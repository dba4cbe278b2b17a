/-
  DERIVED. GIVEN WITH THE SEED: THE CARDS: each row of YtaenibbhpidjcaaGreatDoorRows.lean that lists a variable, with what it lists TIED to the program's text (the seventh form; the later family's looks); each row that meets fmt, with fmt's text TOLD by the authors' own Lean function (tested against real Go, not proved from fmt's source: count such statements apart). THE CARD IS WHAT COUNTS. Prove the row's statement (the work); the ties are given (YtaenibbhpidjcaaGreatDoorTie.lean); close each card by the builder's one call (the guide's Derived/Test/ToyasCard.lean, 'card_holds'). Laid BY PROGRAM, IN A SANDBOX (cutbox-door.mjs). By AI agents, Wed Nov 11 2026. No macro, syntax, notation, axiom, sorry.
-/
import Derived.Test.YtaenibbhpidjcaaGreatDoorRows
import GoSem.ClaimSeven
namespace Go.Proofs.YtaenibbhpidjcaaGreatDoor
namespace Rows

/-- THE TIED CARD OF 'tidewracklaw23.PullNew'. -/
def pullNewCard : Claim7 := { stood := { row := pullNewRow, standIns := [], harness := (true, "6030cad7735ff2ec9f4513a5074224f65ba0359f3c901495ef4910209d2cf38f"), looks := false }, kinds := [], alts := [], laidByText := true, laidKinds := [.data, .data, .data, .data, .data], laidTests := true, laidLooks := .later }
def PullNewCardSaid : Prop := Claim7.holds Tryz.pinned (.plain (OpenSpec.ofChange pullNewSpec)) pullNewCard

/-- THE TIED CARD OF 'tidewracklaw24.PushNew'. -/
def pushNewCard : Claim7 := { stood := { row := pushNewRow, standIns := [], harness := (true, "6030cad7735ff2ec9f4513a5074224f65ba0359f3c901495ef4910209d2cf38f"), looks := false }, kinds := [], alts := [], laidByText := true, laidKinds := [.data, .data, .data, .data, .data], laidTests := true, laidLooks := .later }
def PushNewCardSaid : Prop := Claim7.holds Tryz.pinned (.plain (OpenSpec.ofChange pushNewSpec)) pushNewCard

/-- THE SECOND FORM's CARD OF 'tidewracklaw23.PullNew'. -/
def pullNewUptoCard : Claim7 := { stood := { row := pullNewUptoRow, standIns := [], harness := (true, "6030cad7735ff2ec9f4513a5074224f65ba0359f3c901495ef4910209d2cf38f"), looks := false }, kinds := [], alts := [], laidByText := true, laidKinds := [.data, .data, .data, .data, .data], laidTests := true, laidLooks := .later }
def PullNewUptoCardSaid : Prop := Claim7.holds Tryz.pinned (.plain (OpenSpec.upto pullNewSpec)) pullNewUptoCard

/-- THE SECOND FORM's CARD OF 'tidewracklaw24.PushNew'. -/
def pushNewUptoCard : Claim7 := { stood := { row := pushNewUptoRow, standIns := [], harness := (true, "6030cad7735ff2ec9f4513a5074224f65ba0359f3c901495ef4910209d2cf38f"), looks := false }, kinds := [], alts := [], laidByText := true, laidKinds := [.data, .data, .data, .data, .data], laidTests := true, laidLooks := .later }
def PushNewUptoCardSaid : Prop := Claim7.holds Tryz.pinned (.plain (OpenSpec.upto pushNewSpec)) pushNewUptoCard
end Rows
end Go.Proofs.YtaenibbhpidjcaaGreatDoor
