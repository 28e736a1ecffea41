/- An argument of stage 5's statements by value, opened: twelve bytes, three numbers, two truths, bytes. -/
import Derived.Test.YtekhjpiopbkoaaaRow
import Derived.Test.YtekhjpiopbkoaaaChecked
import Derived.OpenShut
import Derived.ChangeSame
import Derived.ChangeArms
import Derived.ChangeSlices
namespace Go.Proofs.Ytekhjpiopbkoaaa
open Go.RowKit Go.WideShapes Go.ChangeShapes
set_option linter.unusedVariables false
set_option maxRecDepth 100000

/-- Small, in numbers: its value. -/
def SV (b : List Nat) (wo fa ma : Nat) (df mf : Bool) (A : Option Addr) (n c : Nat) : Value :=
  .agg #[.int .u8 (b.getD 0 0 : Nat), .int .u8 (b.getD 1 0 : Nat), .int .u8 (b.getD 2 0 : Nat), .int .u8 (b.getD 3 0 : Nat), .int .u8 (b.getD 4 0 : Nat), .int .u8 (b.getD 5 0 : Nat), .int .u8 (b.getD 6 0 : Nat), .int .u8 (b.getD 7 0 : Nat), .int .u8 (b.getD 8 0 : Nat), .int .u8 (b.getD 9 0 : Nat), .int .u8 (b.getD 10 0 : Nat), .int .u8 (b.getD 11 0 : Nat),
    .int .u8 wo, .int .u8 fa, .int .u8 ma, .bool df, .bool mf, .slice A n c]

variable {H : Type} {enc : TypeId × Value → H} {w : World} {base : Nat} {spare : Nat → Bool} {held : Bool}
theorem one_of {α : Type} {cs : List α} {i : Nat} {v : α} (h : (cs.drop i).take 1 = [v]) : cs[i]? = some v := by
  have := congrArg (·[0]?) h
  simpa [List.getElem?_take, List.getElem?_drop] using this
theorem nat8 {z : Int} (h : (Lit.int .u8 z).wf = true) : ∃ n : Nat, z = n ∧ n < 256 := by
  have hb := bounds_u8 h
  exact ⟨z.toNat, by omega, by omega⟩
theorem u8_cell {P : Program} {t : TypeId} {cs : List Value} {fuel i : Nat} {o : Option (DataW H × List MemPlace)} (hu : P.underlying t = some (.int .u8)) (h : DataW.trod enc P w base spare held fuel t ((cs.drop i).take 1) = o) (ho : ∃ x, o = some x) : ∃ n : Nat, cs[i]? = some (.int .u8 n) ∧ n < 256 := by
  obtain ⟨x, rfl⟩ := ho
  obtain ⟨z, e, _, hz⟩ := DataW.trod_int hu h
  obtain ⟨n, rfl, hn⟩ := nat8 hz
  exact ⟨n, one_of e, hn⟩
theorem bool_cell {P : Program} {t : TypeId} {cs : List Value} {fuel i : Nat} {o : Option (DataW H × List MemPlace)} (hu : P.underlying t = some .bool) (h : DataW.trod enc P w base spare held fuel t ((cs.drop i).take 1) = o) (ho : ∃ x, o = some x) : ∃ b : Bool, cs[i]? = some (.bool b) := by
  obtain ⟨x, rfl⟩ := ho
  obtain ⟨b, e, _⟩ := DataW.trod_bool hu h
  exact ⟨b, one_of e⟩
/-- A slice of bytes among the cells of a struct that came in. -/
theorem bytes_cell {P : Program} {t e : TypeId} {cs : List Value} {fuel i : Nat} {o : Option (DataW H × List MemPlace)} (ht : P.underlying t = some (.slice e)) (he : P.underlying e = some (.int .u8)) (hc : P.cellsOf e = 1)
    (h : DataW.trod enc P w 0 (fun _ => true) held fuel t ((cs.drop i).take 1) = o) (ho : ∃ x, o = some x) :
    ∃ (A : Option Addr) (n c : Nat) (xs : List UInt8), cs[i]? = some (.slice A n c) ∧ xs.length = n ∧ Rd w A (B8 xs) ∧ (A = none → c = 0) ∧ n ≤ c ∧ c ≤ maxLen := by
  obtain ⟨x, rfl⟩ := ho
  rcases open_ints ht he hc h with ⟨hcs, _⟩ | ⟨x, l, c, zs, hcs, _, hl, hm, hz, _, hcell, hwz⟩
  · exact ⟨none, 0, 0, [], one_of hcs, rfl, Rd.nil _ _, fun _ => rfl, Nat.le_refl _, Nat.zero_le _⟩
  · obtain ⟨xs, h1, h2, h3, h4, h5⟩ := row8 (w := w) (a := some x) (n := l) (c := c) (zs := zs) (.inr ⟨x, rfl, hl, hm, by simpa using hz, hcell, hwz⟩)
    exact ⟨some x, l, c, xs, one_of hcs, h1, h2, h3, h4, h5⟩
end Go.Proofs.Ytekhjpiopbkoaaa
