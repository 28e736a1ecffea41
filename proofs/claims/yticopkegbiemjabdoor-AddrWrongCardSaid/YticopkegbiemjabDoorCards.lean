/-
  DERIVED. GIVEN WITH THE SEED: THE CARDS: each row of YticopkegbiemjabDoorRows.lean that lists a variable, with what it lists TIED to the program's text (the seventh form; the later family's looks); each row that meets fmt, with fmt's text TOLD by the authors' own Lean function (tested against real Go, not proved from fmt's source: count such statements apart). THE CARD IS WHAT COUNTS. Prove the row's statement (the work); the ties are given (YticopkegbiemjabDoorTie.lean); close each card by the builder's one call (the guide's Derived/Test/ToyasCard.lean, 'card_holds'). Laid BY PROGRAM, IN A SANDBOX (cutbox-door.mjs). By AI agents, Wed Nov 11 2026. No macro, syntax, notation, axiom, sorry.
-/
import Derived.Test.YticopkegbiemjabDoorRows
import GoSem.ClaimSeven
namespace Go.Proofs.YticopkegbiemjabDoor
namespace Rows

/-- THE TIED CARD OF 'bafflelaw03.AddrKeys'. -/
def addrKeysCard : Claim7 := { stood := { row := addrKeysRow, standIns := [], harness := (true, "ef13a0ccd16660e6ebb97fe964e24429076e5255e1f98b65ac2474591418413c"), looks := true }, kinds := [], alts := [], laidByText := true, laidKinds := [.data, .data, .data, .data, .sentinel, .sentinel, .pinned], laidTests := true, laidLooks := .later }
def AddrKeysCardSaid : Prop := Claim7.holds Tryd.pinned (.plain (OpenSpec.ofChange addrKeysSpec)) addrKeysCard

/-- THE TIED CARD OF 'bafflelaw03.AddrReads'. -/
def addrReadsCard : Claim7 := { stood := { row := addrReadsRow, standIns := [], harness := (true, "ef13a0ccd16660e6ebb97fe964e24429076e5255e1f98b65ac2474591418413c"), looks := true }, kinds := [], alts := [], laidByText := true, laidKinds := [.data, .data, .data, .data, .sentinel, .sentinel, .pinned], laidTests := true, laidLooks := .later }
def AddrReadsCardSaid : Prop := Claim7.holds Tryd.pinned (.plain (OpenSpec.ofChange addrReadsSpec)) addrReadsCard

/-- THE TIED CARD OF 'bafflelaw03.AddrWrong'. -/
def addrWrongCard : Claim7 := { stood := { row := addrWrongRow, standIns := [], harness := (true, "ef13a0ccd16660e6ebb97fe964e24429076e5255e1f98b65ac2474591418413c"), looks := true }, kinds := [], alts := [], laidByText := true, laidKinds := [.data, .data, .data, .data, .sentinel, .sentinel, .pinned], laidTests := true, laidLooks := .later }
def AddrWrongCardSaid : Prop := Claim7.holds Tryd.pinned (.plain (OpenSpec.ofChange addrWrongSpec)) addrWrongCard

/-- THE SECOND FORM's CARD OF 'bafflelaw03.AddrKeys'. -/
def addrKeysUptoCard : Claim7 := { stood := { row := addrKeysUptoRow, standIns := [], harness := (true, "ef13a0ccd16660e6ebb97fe964e24429076e5255e1f98b65ac2474591418413c"), looks := true }, kinds := [], alts := [], laidByText := true, laidKinds := [.data, .data, .data, .data, .sentinel, .sentinel, .pinned], laidTests := true, laidLooks := .later }
def AddrKeysUptoCardSaid : Prop := Claim7.holds Tryd.pinned (.plain (OpenSpec.upto addrKeysSpec)) addrKeysUptoCard

/-- THE SECOND FORM's CARD OF 'bafflelaw03.AddrReads'. -/
def addrReadsUptoCard : Claim7 := { stood := { row := addrReadsUptoRow, standIns := [], harness := (true, "ef13a0ccd16660e6ebb97fe964e24429076e5255e1f98b65ac2474591418413c"), looks := true }, kinds := [], alts := [], laidByText := true, laidKinds := [.data, .data, .data, .data, .sentinel, .sentinel, .pinned], laidTests := true, laidLooks := .later }
def AddrReadsUptoCardSaid : Prop := Claim7.holds Tryd.pinned (.plain (OpenSpec.upto addrReadsSpec)) addrReadsUptoCard

/-- THE SECOND FORM's CARD OF 'bafflelaw03.AddrWrong'. -/
def addrWrongUptoCard : Claim7 := { stood := { row := addrWrongUptoRow, standIns := [], harness := (true, "ef13a0ccd16660e6ebb97fe964e24429076e5255e1f98b65ac2474591418413c"), looks := true }, kinds := [], alts := [], laidByText := true, laidKinds := [.data, .data, .data, .data, .sentinel, .sentinel, .pinned], laidTests := true, laidLooks := .later }
def AddrWrongUptoCardSaid : Prop := Claim7.holds Tryd.pinned (.plain (OpenSpec.upto addrWrongSpec)) addrWrongUptoCard
end Rows
end Go.Proofs.YticopkegbiemjabDoor
