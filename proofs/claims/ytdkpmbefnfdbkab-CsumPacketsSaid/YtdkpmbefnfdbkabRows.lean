/-
  No cell of these rows narrows 'for every input' (looked for: loops, veiled, ifaces, maps, wideKeys, modest, calm, conditions, laid).
  DERIVED. THE GIVEN ROWS OF THIS SEAT. 2 by the template 'for every input the law returns true; each argument reads behind the call as it read before'; 0 by the template 'total and deterministic' (their statements: YtdkpmbefnfdbkabTotals.lean).
  GIVEN WITH THE SEED: the statements are not yours to turn. If you find one false, say at which input.
  Laid BY PROGRAM, IN A SANDBOX (cutbox-rows.mjs): the forced cells as the released guide's own fill.sh prints them over the translation ecd310e34c674fa7… (all of the seat's roots in one cut). By AI agents, Wed Nov 11 2026. No macro, syntax, notation, axiom, sorry.
-/
import Derived.Test.YtdkpmbefnfdbkabChecked
import GoSem.Claim
import GoSem.ClaimJoined
import GoSem.ClaimMapViews
import Derived.JoinedTies
import Derived.KernelRfl
namespace Go.Proofs.Ytdkpmbefnfdbkab
/- THE CELL 'sum', in the pinned program and in every row, IS THE sha256 OF THE DUMP (.gsa) THAT YtdkpmbefnfdbkabProg.lean LOADS. Nothing in Lean hashes anything: it is a label: what it is worth is what the hold of that sum in a sandbox is worth. -/
noncomputable def Try.pinned : Pinned := { name := "ytdkpmbefnfdbkab", sum := "ecd310e34c674fa776e1b6371bed3600406474493e525c8529a50c6c9e358321", checked := Try.checked }
namespace Rows
def none {H : Type} : Left H := { results := [], args := [] }

/-- 'bafflelaw02.CsumPackets': WHATEVER THE INPUT: true; the input reads as it did. -/
def csumPacketsSpec : ChangeSpec := { name := "csumPackets", fn := fun _ => fun
  | [d1, d2, d3, d4, d5] => { results := [.lit (.bool true)], args := [d1, d2, d3, d4, d5] }
  | _ => none }
def csumPacketsRow : OpenClaim := { program := "ytdkpmbefnfdbkab", sum := "ecd310e34c674fa776e1b6371bed3600406474493e525c8529a50c6c9e358321", func := "baffle/bafflelaw02.CsumPackets", spec := "csumPackets", unfollowed := true, recurses := true, apart := false }
def CsumPacketsSaid : Prop := csumPacketsRow.holds Try.pinned (OpenSpec.ofChange csumPacketsSpec)

/-- ITS FALSE NEIGHBOUR: 'it returns false'. Refute it at one input. -/
def csumPacketsWrong : ChangeSpec := { name := "csumPackets", fn := fun _ => fun
  | [d1, d2, d3, d4, d5] => { results := [.lit (.bool false)], args := [d1, d2, d3, d4, d5] }
  | _ => none }
def CsumPacketsWrongFalsely : Prop := csumPacketsRow.holds Try.pinned (OpenSpec.ofChange csumPacketsWrong)

/-- 'bafflelaw02.CsumWrong': WHATEVER THE INPUT: true; the input reads as it did. -/
def csumWrongSpec : ChangeSpec := { name := "csumWrong", fn := fun _ => fun
  | [d1, d2, d3] => { results := [.lit (.bool true)], args := [d1, d2, d3] }
  | _ => none }
def csumWrongRow : OpenClaim := { program := "ytdkpmbefnfdbkab", sum := "ecd310e34c674fa776e1b6371bed3600406474493e525c8529a50c6c9e358321", func := "baffle/bafflelaw02.CsumWrong", spec := "csumWrong", unfollowed := true, recurses := true, apart := false }
def CsumWrongSaid : Prop := csumWrongRow.holds Try.pinned (OpenSpec.ofChange csumWrongSpec)

/-- ITS FALSE NEIGHBOUR: 'it returns false'. Refute it at one input. -/
def csumWrongWrong : ChangeSpec := { name := "csumWrong", fn := fun _ => fun
  | [d1, d2, d3] => { results := [.lit (.bool false)], args := [d1, d2, d3] }
  | _ => none }
def CsumWrongWrongFalsely : Prop := csumWrongRow.holds Try.pinned (OpenSpec.ofChange csumWrongWrong)

/- THE SECOND FORM. 'bulk': how many values and letters a reading holds, each counted each time it is reached (what is shared counts as often as it is met; a slice's spare places count too). A statement '..UptoSaid' is the law's where the arguments, and the package variables that the reading takes, are together of bulk at most 1048576: NARROWER than '..Said'. Prove '..Said' where nothing that the law and all that it calls make is longer than what came in: it says more and counts as full. Else prove '..UptoSaid'. A law counts once. -/
mutual
def uptoBulk {H : Type} : DataW H → Nat
  | .lit (.string bytes) => bytes.length + 1
  | .lit _ => 1
  | .nil => 1
  | .ptr d => uptoBulk d + 1
  | .slice elems spare => uptoBulkAll elems + uptoBulkAll spare + 1
  | .agg parts => uptoBulkAll parts + 1
  | .iface _ d => uptoBulk d + 1
  | .map entries => uptoBulkEntries entries + 1
  | .held _ => 1
def uptoBulkAll {H : Type} : List (DataW H) → Nat
  | [] => 0
  | d :: r => uptoBulk d + uptoBulkAll r
def uptoBulkEntries {H : Type} : List (Lit × DataW H) → Nat
  | [] => 0
  | x :: r => uptoBulkEntry x + uptoBulkEntries r
def uptoBulkEntry {H : Type} : Lit × DataW H → Nat
  | (.string bytes, d) => bytes.length + uptoBulk d + 1
  | (_, d) => uptoBulk d + 1
 end
def uptoSmall : (H : Type) → List (DataW H) → Bool := fun _ ds => decide (uptoBulkAll ds ≤ 1048576)
def OpenSpec.upto (s : _root_.Go.ChangeSpec) : _root_.Go.OpenSpec := { _root_.Go.OpenSpec.ofChange s with cond := some uptoSmall }

/-- 'bafflelaw02.CsumPackets', WHERE WHAT IT READS IS OF BULK AT MOST 1048576: true; the input reads as it did. -/
def csumPacketsUptoRow : OpenClaim := { program := "ytdkpmbefnfdbkab", sum := "ecd310e34c674fa776e1b6371bed3600406474493e525c8529a50c6c9e358321", func := "baffle/bafflelaw02.CsumPackets", spec := "csumPackets", unfollowed := true, recurses := true, apart := false, narrowed := true }
def CsumPacketsUptoSaid : Prop := csumPacketsUptoRow.holds Try.pinned (OpenSpec.upto csumPacketsSpec)

/-- 'bafflelaw02.CsumWrong', WHERE WHAT IT READS IS OF BULK AT MOST 1048576: true; the input reads as it did. -/
def csumWrongUptoRow : OpenClaim := { program := "ytdkpmbefnfdbkab", sum := "ecd310e34c674fa776e1b6371bed3600406474493e525c8529a50c6c9e358321", func := "baffle/bafflelaw02.CsumWrong", spec := "csumWrong", unfollowed := true, recurses := true, apart := false, narrowed := true }
def CsumWrongUptoSaid : Prop := csumWrongUptoRow.holds Try.pinned (OpenSpec.upto csumWrongSpec)

end Rows
end Go.Proofs.Ytdkpmbefnfdbkab
