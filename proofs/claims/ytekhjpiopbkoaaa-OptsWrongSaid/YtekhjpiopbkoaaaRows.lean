/-
  No cell of these rows narrows 'for every input' (looked for: loops, veiled, ifaces, maps, wideKeys, modest, calm, conditions, laid).
  DERIVED. THE GIVEN ROWS OF THIS SEAT. 6 by the template 'for every input the law returns true; each argument reads behind the call as it read before'; 0 by the template 'total and deterministic' (their statements: YtekhjpiopbkoaaaTotals.lean).
  GIVEN WITH THE SEED: the statements are not yours to turn. If you find one false, say at which input.
  Laid BY PROGRAM, IN A SANDBOX (cutbox-rows.mjs): the forced cells as the released guide's own fill.sh prints them over the translation c972c4809e24fe46… (all of the seat's roots in one cut). By AI agents, Wed Nov 11 2026. No macro, syntax, notation, axiom, sorry.
-/
import Derived.Test.YtekhjpiopbkoaaaChecked
import GoSem.Claim
import GoSem.ClaimJoined
import GoSem.ClaimMapViews
import Derived.JoinedTies
import Derived.KernelRfl
namespace Go.Proofs.Ytekhjpiopbkoaaa
/- THE CELL 'sum', in the pinned program and in every row, IS THE sha256 OF THE DUMP (.gsa) THAT YtekhjpiopbkoaaaProg.lean LOADS. Nothing in Lean hashes anything: it is a label: what it is worth is what the hold of that sum in a sandbox is worth. -/
noncomputable def Try.pinned : Pinned := { name := "ytekhjpiopbkoaaa", sum := "c972c4809e24fe46c5134edc95b6581e3702401a1a903f06717771edb4049212", checked := Try.checked }
namespace Rows
def none {H : Type} : Left H := { results := [], args := [] }

/-- 'bafflelaw06.OptsBack': WHATEVER THE INPUT: true; the input reads as it did. -/
def optsBackSpec : ChangeSpec := { name := "optsBack", fn := fun _ => fun
  | [d] => { results := [.lit (.bool true)], args := [d] }
  | _ => none }
def optsBackRow : OpenClaim := { program := "ytekhjpiopbkoaaa", sum := "c972c4809e24fe46c5134edc95b6581e3702401a1a903f06717771edb4049212", func := "baffle/bafflelaw06.OptsBack", spec := "optsBack", unfollowed := true, recurses := true, apart := false }
def OptsBackSaid : Prop := optsBackRow.holds Try.pinned (OpenSpec.ofChange optsBackSpec)

/-- ITS FALSE NEIGHBOUR: 'it returns false'. Refute it at one input. -/
def optsBackWrong : ChangeSpec := { name := "optsBack", fn := fun _ => fun
  | [d] => { results := [.lit (.bool false)], args := [d] }
  | _ => none }
def OptsBackWrongFalsely : Prop := optsBackRow.holds Try.pinned (OpenSpec.ofChange optsBackWrong)

/-- 'bafflelaw06.OptsAgain': WHATEVER THE INPUT: true; the input reads as it did. -/
def optsAgainSpec : ChangeSpec := { name := "optsAgain", fn := fun _ => fun
  | [d] => { results := [.lit (.bool true)], args := [d] }
  | _ => none }
def optsAgainRow : OpenClaim := { program := "ytekhjpiopbkoaaa", sum := "c972c4809e24fe46c5134edc95b6581e3702401a1a903f06717771edb4049212", func := "baffle/bafflelaw06.OptsAgain", spec := "optsAgain", unfollowed := true, recurses := true, apart := false }
def OptsAgainSaid : Prop := optsAgainRow.holds Try.pinned (OpenSpec.ofChange optsAgainSpec)

/-- ITS FALSE NEIGHBOUR: 'it returns false'. Refute it at one input. -/
def optsAgainWrong : ChangeSpec := { name := "optsAgain", fn := fun _ => fun
  | [d] => { results := [.lit (.bool false)], args := [d] }
  | _ => none }
def OptsAgainWrongFalsely : Prop := optsAgainRow.holds Try.pinned (OpenSpec.ofChange optsAgainWrong)

/-- 'bafflelaw06.OptsRecords': WHATEVER THE INPUT: true; the input reads as it did. -/
def optsRecordsSpec : ChangeSpec := { name := "optsRecords", fn := fun _ => fun
  | [d1, d2, d3, d4] => { results := [.lit (.bool true)], args := [d1, d2, d3, d4] }
  | _ => none }
def optsRecordsRow : OpenClaim := { program := "ytekhjpiopbkoaaa", sum := "c972c4809e24fe46c5134edc95b6581e3702401a1a903f06717771edb4049212", func := "baffle/bafflelaw06.OptsRecords", spec := "optsRecords", unfollowed := true, recurses := true, apart := false }
def OptsRecordsSaid : Prop := optsRecordsRow.holds Try.pinned (OpenSpec.ofChange optsRecordsSpec)

/-- ITS FALSE NEIGHBOUR: 'it returns false'. Refute it at one input. -/
def optsRecordsWrong : ChangeSpec := { name := "optsRecords", fn := fun _ => fun
  | [d1, d2, d3, d4] => { results := [.lit (.bool false)], args := [d1, d2, d3, d4] }
  | _ => none }
def OptsRecordsWrongFalsely : Prop := optsRecordsRow.holds Try.pinned (OpenSpec.ofChange optsRecordsWrong)

/-- 'bafflelaw06.OptsCut': WHATEVER THE INPUT: true; the input reads as it did. -/
def optsCutSpec : ChangeSpec := { name := "optsCut", fn := fun _ => fun
  | [d1, d2] => { results := [.lit (.bool true)], args := [d1, d2] }
  | _ => none }
def optsCutRow : OpenClaim := { program := "ytekhjpiopbkoaaa", sum := "c972c4809e24fe46c5134edc95b6581e3702401a1a903f06717771edb4049212", func := "baffle/bafflelaw06.OptsCut", spec := "optsCut", unfollowed := true, recurses := true, apart := false }
def OptsCutSaid : Prop := optsCutRow.holds Try.pinned (OpenSpec.ofChange optsCutSpec)

/-- ITS FALSE NEIGHBOUR: 'it returns false'. Refute it at one input. -/
def optsCutWrong : ChangeSpec := { name := "optsCut", fn := fun _ => fun
  | [d1, d2] => { results := [.lit (.bool false)], args := [d1, d2] }
  | _ => none }
def OptsCutWrongFalsely : Prop := optsCutRow.holds Try.pinned (OpenSpec.ofChange optsCutWrong)

/-- 'bafflelaw06.OptsFinds': WHATEVER THE INPUT: true; the input reads as it did. -/
def optsFindsSpec : ChangeSpec := { name := "optsFinds", fn := fun _ => fun
  | [d1, d2] => { results := [.lit (.bool true)], args := [d1, d2] }
  | _ => none }
def optsFindsRow : OpenClaim := { program := "ytekhjpiopbkoaaa", sum := "c972c4809e24fe46c5134edc95b6581e3702401a1a903f06717771edb4049212", func := "baffle/bafflelaw06.OptsFinds", spec := "optsFinds", unfollowed := true, recurses := true, apart := false }
def OptsFindsSaid : Prop := optsFindsRow.holds Try.pinned (OpenSpec.ofChange optsFindsSpec)

/-- ITS FALSE NEIGHBOUR: 'it returns false'. Refute it at one input. -/
def optsFindsWrong : ChangeSpec := { name := "optsFinds", fn := fun _ => fun
  | [d1, d2] => { results := [.lit (.bool false)], args := [d1, d2] }
  | _ => none }
def OptsFindsWrongFalsely : Prop := optsFindsRow.holds Try.pinned (OpenSpec.ofChange optsFindsWrong)

/-- 'bafflelaw06.OptsWrong': WHATEVER THE INPUT: true; the input reads as it did. -/
def optsWrongSpec : ChangeSpec := { name := "optsWrong", fn := fun _ => fun
  | [d1, d2, d3] => { results := [.lit (.bool true)], args := [d1, d2, d3] }
  | _ => none }
def optsWrongRow : OpenClaim := { program := "ytekhjpiopbkoaaa", sum := "c972c4809e24fe46c5134edc95b6581e3702401a1a903f06717771edb4049212", func := "baffle/bafflelaw06.OptsWrong", spec := "optsWrong", unfollowed := true, recurses := true, apart := false }
def OptsWrongSaid : Prop := optsWrongRow.holds Try.pinned (OpenSpec.ofChange optsWrongSpec)

/-- ITS FALSE NEIGHBOUR: 'it returns false'. Refute it at one input. -/
def optsWrongWrong : ChangeSpec := { name := "optsWrong", fn := fun _ => fun
  | [d1, d2, d3] => { results := [.lit (.bool false)], args := [d1, d2, d3] }
  | _ => none }
def OptsWrongWrongFalsely : Prop := optsWrongRow.holds Try.pinned (OpenSpec.ofChange optsWrongWrong)

/- THE SECOND FORM. 'bulk': how many values and letters a reading holds, each counted each time it is reached (what is shared counts as often as it is met; a slice's spare places count too). A statement '..UptoSaid' is the law's where the arguments, and the package variables that the reading takes, are together of bulk at most 1048576: NARROWER than '..Said'. Prove '..Said' where nothing that the law and all that it calls make is longer than what came in: it says more and counts as full. Else prove '..UptoSaid'. A law counts once. -/
mutual
def uptoBulk {H : Type} : DataW H → Nat
  | .lit (.string bytes) => bytes.length + 1
  | .lit _ => 1
  | .nil => 1
  | .ptr d => uptoBulk d + 1
  | .slice elems spare => uptoBulkAll elems + uptoBulkAll spare + 1
  | .agg parts => uptoBulkAll parts + 1
  | .iface _ d => uptoBulk d + 1
  | .map entries => uptoBulkEntries entries + 1
  | .held _ => 1
def uptoBulkAll {H : Type} : List (DataW H) → Nat
  | [] => 0
  | d :: r => uptoBulk d + uptoBulkAll r
def uptoBulkEntries {H : Type} : List (Lit × DataW H) → Nat
  | [] => 0
  | x :: r => uptoBulkEntry x + uptoBulkEntries r
def uptoBulkEntry {H : Type} : Lit × DataW H → Nat
  | (.string bytes, d) => bytes.length + uptoBulk d + 1
  | (_, d) => uptoBulk d + 1
 end
def uptoSmall : (H : Type) → List (DataW H) → Bool := fun _ ds => decide (uptoBulkAll ds ≤ 1048576)
def OpenSpec.upto (s : _root_.Go.ChangeSpec) : _root_.Go.OpenSpec := { _root_.Go.OpenSpec.ofChange s with cond := some uptoSmall }

/-- 'bafflelaw06.OptsBack', WHERE WHAT IT READS IS OF BULK AT MOST 1048576: true; the input reads as it did. -/
def optsBackUptoRow : OpenClaim := { program := "ytekhjpiopbkoaaa", sum := "c972c4809e24fe46c5134edc95b6581e3702401a1a903f06717771edb4049212", func := "baffle/bafflelaw06.OptsBack", spec := "optsBack", unfollowed := true, recurses := true, apart := false, narrowed := true }
def OptsBackUptoSaid : Prop := optsBackUptoRow.holds Try.pinned (OpenSpec.upto optsBackSpec)

/-- 'bafflelaw06.OptsAgain', WHERE WHAT IT READS IS OF BULK AT MOST 1048576: true; the input reads as it did. -/
def optsAgainUptoRow : OpenClaim := { program := "ytekhjpiopbkoaaa", sum := "c972c4809e24fe46c5134edc95b6581e3702401a1a903f06717771edb4049212", func := "baffle/bafflelaw06.OptsAgain", spec := "optsAgain", unfollowed := true, recurses := true, apart := false, narrowed := true }
def OptsAgainUptoSaid : Prop := optsAgainUptoRow.holds Try.pinned (OpenSpec.upto optsAgainSpec)

/-- 'bafflelaw06.OptsRecords', WHERE WHAT IT READS IS OF BULK AT MOST 1048576: true; the input reads as it did. -/
def optsRecordsUptoRow : OpenClaim := { program := "ytekhjpiopbkoaaa", sum := "c972c4809e24fe46c5134edc95b6581e3702401a1a903f06717771edb4049212", func := "baffle/bafflelaw06.OptsRecords", spec := "optsRecords", unfollowed := true, recurses := true, apart := false, narrowed := true }
def OptsRecordsUptoSaid : Prop := optsRecordsUptoRow.holds Try.pinned (OpenSpec.upto optsRecordsSpec)

/-- 'bafflelaw06.OptsCut', WHERE WHAT IT READS IS OF BULK AT MOST 1048576: true; the input reads as it did. -/
def optsCutUptoRow : OpenClaim := { program := "ytekhjpiopbkoaaa", sum := "c972c4809e24fe46c5134edc95b6581e3702401a1a903f06717771edb4049212", func := "baffle/bafflelaw06.OptsCut", spec := "optsCut", unfollowed := true, recurses := true, apart := false, narrowed := true }
def OptsCutUptoSaid : Prop := optsCutUptoRow.holds Try.pinned (OpenSpec.upto optsCutSpec)

/-- 'bafflelaw06.OptsFinds', WHERE WHAT IT READS IS OF BULK AT MOST 1048576: true; the input reads as it did. -/
def optsFindsUptoRow : OpenClaim := { program := "ytekhjpiopbkoaaa", sum := "c972c4809e24fe46c5134edc95b6581e3702401a1a903f06717771edb4049212", func := "baffle/bafflelaw06.OptsFinds", spec := "optsFinds", unfollowed := true, recurses := true, apart := false, narrowed := true }
def OptsFindsUptoSaid : Prop := optsFindsUptoRow.holds Try.pinned (OpenSpec.upto optsFindsSpec)

/-- 'bafflelaw06.OptsWrong', WHERE WHAT IT READS IS OF BULK AT MOST 1048576: true; the input reads as it did. -/
def optsWrongUptoRow : OpenClaim := { program := "ytekhjpiopbkoaaa", sum := "c972c4809e24fe46c5134edc95b6581e3702401a1a903f06717771edb4049212", func := "baffle/bafflelaw06.OptsWrong", spec := "optsWrong", unfollowed := true, recurses := true, apart := false, narrowed := true }
def OptsWrongUptoSaid : Prop := optsWrongUptoRow.holds Try.pinned (OpenSpec.upto optsWrongSpec)

end Rows
end Go.Proofs.Ytekhjpiopbkoaaa
