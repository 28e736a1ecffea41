/-
  No cell of these rows narrows 'for every input' (looked for: loops, veiled, ifaces, maps, wideKeys, modest, calm, conditions, laid).
  DERIVED. THE GIVEN ROWS OF THIS SEAT. 6 by the template 'for every input the law returns true; each argument reads behind the call as it read before'; 0 by the template 'total and deterministic' (their statements: YtjpcfphmejenoaaTotals.lean).
  GIVEN WITH THE SEED: the statements are not yours to turn. If you find one false, say at which input.
  Laid BY PROGRAM, IN A SANDBOX (cutbox-rows.mjs): the forced cells as the released guide's own fill.sh prints them over the translation 554d7445755d2ee3… (all of the seat's roots in one cut). By AI agents, Wed Nov 11 2026. No macro, syntax, notation, axiom, sorry.
-/
import Derived.Test.YtjpcfphmejenoaaChecked
import GoSem.Claim
import GoSem.ClaimJoined
import GoSem.ClaimMapViews
import Derived.JoinedTies
import Derived.KernelRfl
namespace Go.Proofs.Ytjpcfphmejenoaa
/- THE CELL 'sum', in the pinned program and in every row, IS THE sha256 OF THE DUMP (.gsa) THAT YtjpcfphmejenoaaProg.lean LOADS. Nothing in Lean hashes anything: it is a label: what it is worth is what the hold of that sum in a sandbox is worth. -/
noncomputable def Try.pinned : Pinned := { name := "ytjpcfphmejenoaa", sum := "554d7445755d2ee33749c35fccb65e6816da4bff394d7a7704ef0cabf02023e7", checked := Try.checked }
namespace Rows
def none {H : Type} : Left H := { results := [], args := [] }

/-- 'bafflelaw05.IpBack': WHATEVER THE INPUT: true; the input reads as it did. -/
def ipBackSpec : ChangeSpec := { name := "ipBack", fn := fun _ => fun
  | [d1, d2] => { results := [.lit (.bool true)], args := [d1, d2] }
  | _ => none }
def ipBackRow : OpenClaim := { program := "ytjpcfphmejenoaa", sum := "554d7445755d2ee33749c35fccb65e6816da4bff394d7a7704ef0cabf02023e7", func := "baffle/bafflelaw05.IpBack", spec := "ipBack", unfollowed := true, recurses := true, apart := false }
def IpBackSaid : Prop := ipBackRow.holds Try.pinned (OpenSpec.ofChange ipBackSpec)

/-- ITS FALSE NEIGHBOUR: 'it returns false'. Refute it at one input. -/
def ipBackWrong : ChangeSpec := { name := "ipBack", fn := fun _ => fun
  | [d1, d2] => { results := [.lit (.bool false)], args := [d1, d2] }
  | _ => none }
def IpBackWrongFalsely : Prop := ipBackRow.holds Try.pinned (OpenSpec.ofChange ipBackWrong)

/-- 'bafflelaw05.IpAgain': WHATEVER THE INPUT: true; the input reads as it did. -/
def ipAgainSpec : ChangeSpec := { name := "ipAgain", fn := fun _ => fun
  | [d] => { results := [.lit (.bool true)], args := [d] }
  | _ => none }
def ipAgainRow : OpenClaim := { program := "ytjpcfphmejenoaa", sum := "554d7445755d2ee33749c35fccb65e6816da4bff394d7a7704ef0cabf02023e7", func := "baffle/bafflelaw05.IpAgain", spec := "ipAgain", unfollowed := true, recurses := true, apart := false }
def IpAgainSaid : Prop := ipAgainRow.holds Try.pinned (OpenSpec.ofChange ipAgainSpec)

/-- ITS FALSE NEIGHBOUR: 'it returns false'. Refute it at one input. -/
def ipAgainWrong : ChangeSpec := { name := "ipAgain", fn := fun _ => fun
  | [d] => { results := [.lit (.bool false)], args := [d] }
  | _ => none }
def IpAgainWrongFalsely : Prop := ipAgainRow.holds Try.pinned (OpenSpec.ofChange ipAgainWrong)

/-- 'bafflelaw05.IpHops': WHATEVER THE INPUT: true; the input reads as it did. -/
def ipHopsSpec : ChangeSpec := { name := "ipHops", fn := fun _ => fun
  | [d1, d2] => { results := [.lit (.bool true)], args := [d1, d2] }
  | _ => none }
def ipHopsRow : OpenClaim := { program := "ytjpcfphmejenoaa", sum := "554d7445755d2ee33749c35fccb65e6816da4bff394d7a7704ef0cabf02023e7", func := "baffle/bafflelaw05.IpHops", spec := "ipHops", unfollowed := true, recurses := true, apart := false }
def IpHopsSaid : Prop := ipHopsRow.holds Try.pinned (OpenSpec.ofChange ipHopsSpec)

/-- ITS FALSE NEIGHBOUR: 'it returns false'. Refute it at one input. -/
def ipHopsWrong : ChangeSpec := { name := "ipHops", fn := fun _ => fun
  | [d1, d2] => { results := [.lit (.bool false)], args := [d1, d2] }
  | _ => none }
def IpHopsWrongFalsely : Prop := ipHopsRow.holds Try.pinned (OpenSpec.ofChange ipHopsWrong)

/-- 'bafflelaw05.IpTurned': WHATEVER THE INPUT: true; the input reads as it did. -/
def ipTurnedSpec : ChangeSpec := { name := "ipTurned", fn := fun _ => fun
  | [d1, d2] => { results := [.lit (.bool true)], args := [d1, d2] }
  | _ => none }
def ipTurnedRow : OpenClaim := { program := "ytjpcfphmejenoaa", sum := "554d7445755d2ee33749c35fccb65e6816da4bff394d7a7704ef0cabf02023e7", func := "baffle/bafflelaw05.IpTurned", spec := "ipTurned", unfollowed := true, recurses := true, apart := false }
def IpTurnedSaid : Prop := ipTurnedRow.holds Try.pinned (OpenSpec.ofChange ipTurnedSpec)

/-- ITS FALSE NEIGHBOUR: 'it returns false'. Refute it at one input. -/
def ipTurnedWrong : ChangeSpec := { name := "ipTurned", fn := fun _ => fun
  | [d1, d2] => { results := [.lit (.bool false)], args := [d1, d2] }
  | _ => none }
def IpTurnedWrongFalsely : Prop := ipTurnedRow.holds Try.pinned (OpenSpec.ofChange ipTurnedWrong)

/-- 'bafflelaw05.IpBit': WHATEVER THE INPUT: true; the input reads as it did. -/
def ipBitSpec : ChangeSpec := { name := "ipBit", fn := fun _ => fun
  | [d1, d2] => { results := [.lit (.bool true)], args := [d1, d2] }
  | _ => none }
def ipBitRow : OpenClaim := { program := "ytjpcfphmejenoaa", sum := "554d7445755d2ee33749c35fccb65e6816da4bff394d7a7704ef0cabf02023e7", func := "baffle/bafflelaw05.IpBit", spec := "ipBit", unfollowed := true, recurses := true, apart := false }
def IpBitSaid : Prop := ipBitRow.holds Try.pinned (OpenSpec.ofChange ipBitSpec)

/-- ITS FALSE NEIGHBOUR: 'it returns false'. Refute it at one input. -/
def ipBitWrong : ChangeSpec := { name := "ipBit", fn := fun _ => fun
  | [d1, d2] => { results := [.lit (.bool false)], args := [d1, d2] }
  | _ => none }
def IpBitWrongFalsely : Prop := ipBitRow.holds Try.pinned (OpenSpec.ofChange ipBitWrong)

/-- 'bafflelaw05.IpWrong': WHATEVER THE INPUT: true; the input reads as it did. -/
def ipWrongSpec : ChangeSpec := { name := "ipWrong", fn := fun _ => fun
  | [d1, d2, d3] => { results := [.lit (.bool true)], args := [d1, d2, d3] }
  | _ => none }
def ipWrongRow : OpenClaim := { program := "ytjpcfphmejenoaa", sum := "554d7445755d2ee33749c35fccb65e6816da4bff394d7a7704ef0cabf02023e7", func := "baffle/bafflelaw05.IpWrong", spec := "ipWrong", unfollowed := true, recurses := true, apart := false }
def IpWrongSaid : Prop := ipWrongRow.holds Try.pinned (OpenSpec.ofChange ipWrongSpec)

/-- ITS FALSE NEIGHBOUR: 'it returns false'. Refute it at one input. -/
def ipWrongWrong : ChangeSpec := { name := "ipWrong", fn := fun _ => fun
  | [d1, d2, d3] => { results := [.lit (.bool false)], args := [d1, d2, d3] }
  | _ => none }
def IpWrongWrongFalsely : Prop := ipWrongRow.holds Try.pinned (OpenSpec.ofChange ipWrongWrong)

/- THE SECOND FORM. 'bulk': how many values and letters a reading holds, each counted each time it is reached (what is shared counts as often as it is met; a slice's spare places count too). A statement '..UptoSaid' is the law's where the arguments, and the package variables that the reading takes, are together of bulk at most 1048576: NARROWER than '..Said'. Prove '..Said' where nothing that the law and all that it calls make is longer than what came in: it says more and counts as full. Else prove '..UptoSaid'. A law counts once. -/
mutual
def uptoBulk {H : Type} : DataW H → Nat
  | .lit (.string bytes) => bytes.length + 1
  | .lit _ => 1
  | .nil => 1
  | .ptr d => uptoBulk d + 1
  | .slice elems spare => uptoBulkAll elems + uptoBulkAll spare + 1
  | .agg parts => uptoBulkAll parts + 1
  | .iface _ d => uptoBulk d + 1
  | .map entries => uptoBulkEntries entries + 1
  | .held _ => 1
def uptoBulkAll {H : Type} : List (DataW H) → Nat
  | [] => 0
  | d :: r => uptoBulk d + uptoBulkAll r
def uptoBulkEntries {H : Type} : List (Lit × DataW H) → Nat
  | [] => 0
  | x :: r => uptoBulkEntry x + uptoBulkEntries r
def uptoBulkEntry {H : Type} : Lit × DataW H → Nat
  | (.string bytes, d) => bytes.length + uptoBulk d + 1
  | (_, d) => uptoBulk d + 1
 end
def uptoSmall : (H : Type) → List (DataW H) → Bool := fun _ ds => decide (uptoBulkAll ds ≤ 1048576)
def OpenSpec.upto (s : _root_.Go.ChangeSpec) : _root_.Go.OpenSpec := { _root_.Go.OpenSpec.ofChange s with cond := some uptoSmall }

/-- 'bafflelaw05.IpBack', WHERE WHAT IT READS IS OF BULK AT MOST 1048576: true; the input reads as it did. -/
def ipBackUptoRow : OpenClaim := { program := "ytjpcfphmejenoaa", sum := "554d7445755d2ee33749c35fccb65e6816da4bff394d7a7704ef0cabf02023e7", func := "baffle/bafflelaw05.IpBack", spec := "ipBack", unfollowed := true, recurses := true, apart := false, narrowed := true }
def IpBackUptoSaid : Prop := ipBackUptoRow.holds Try.pinned (OpenSpec.upto ipBackSpec)

/-- 'bafflelaw05.IpAgain', WHERE WHAT IT READS IS OF BULK AT MOST 1048576: true; the input reads as it did. -/
def ipAgainUptoRow : OpenClaim := { program := "ytjpcfphmejenoaa", sum := "554d7445755d2ee33749c35fccb65e6816da4bff394d7a7704ef0cabf02023e7", func := "baffle/bafflelaw05.IpAgain", spec := "ipAgain", unfollowed := true, recurses := true, apart := false, narrowed := true }
def IpAgainUptoSaid : Prop := ipAgainUptoRow.holds Try.pinned (OpenSpec.upto ipAgainSpec)

/-- 'bafflelaw05.IpHops', WHERE WHAT IT READS IS OF BULK AT MOST 1048576: true; the input reads as it did. -/
def ipHopsUptoRow : OpenClaim := { program := "ytjpcfphmejenoaa", sum := "554d7445755d2ee33749c35fccb65e6816da4bff394d7a7704ef0cabf02023e7", func := "baffle/bafflelaw05.IpHops", spec := "ipHops", unfollowed := true, recurses := true, apart := false, narrowed := true }
def IpHopsUptoSaid : Prop := ipHopsUptoRow.holds Try.pinned (OpenSpec.upto ipHopsSpec)

/-- 'bafflelaw05.IpTurned', WHERE WHAT IT READS IS OF BULK AT MOST 1048576: true; the input reads as it did. -/
def ipTurnedUptoRow : OpenClaim := { program := "ytjpcfphmejenoaa", sum := "554d7445755d2ee33749c35fccb65e6816da4bff394d7a7704ef0cabf02023e7", func := "baffle/bafflelaw05.IpTurned", spec := "ipTurned", unfollowed := true, recurses := true, apart := false, narrowed := true }
def IpTurnedUptoSaid : Prop := ipTurnedUptoRow.holds Try.pinned (OpenSpec.upto ipTurnedSpec)

/-- 'bafflelaw05.IpBit', WHERE WHAT IT READS IS OF BULK AT MOST 1048576: true; the input reads as it did. -/
def ipBitUptoRow : OpenClaim := { program := "ytjpcfphmejenoaa", sum := "554d7445755d2ee33749c35fccb65e6816da4bff394d7a7704ef0cabf02023e7", func := "baffle/bafflelaw05.IpBit", spec := "ipBit", unfollowed := true, recurses := true, apart := false, narrowed := true }
def IpBitUptoSaid : Prop := ipBitUptoRow.holds Try.pinned (OpenSpec.upto ipBitSpec)

/-- 'bafflelaw05.IpWrong', WHERE WHAT IT READS IS OF BULK AT MOST 1048576: true; the input reads as it did. -/
def ipWrongUptoRow : OpenClaim := { program := "ytjpcfphmejenoaa", sum := "554d7445755d2ee33749c35fccb65e6816da4bff394d7a7704ef0cabf02023e7", func := "baffle/bafflelaw05.IpWrong", spec := "ipWrong", unfollowed := true, recurses := true, apart := false, narrowed := true }
def IpWrongUptoSaid : Prop := ipWrongUptoRow.holds Try.pinned (OpenSpec.upto ipWrongSpec)

end Rows
end Go.Proofs.Ytjpcfphmejenoaa
