/- An argument of stage 5's statements by value, opened: twelve bytes, three numbers, two truths, bytes. -/
import Derived.Test.YtjpcfphmejenoaaRow
import Derived.Test.YtjpcfphmejenoaaChecked
import Derived.OpenShut
import Derived.ChangeSame
import Derived.ChangeArms
import Derived.ChangeSlices
namespace Go.Proofs.Ytjpcfphmejenoaa
open Go.RowKit Go.WideShapes Go.ChangeShapes
set_option linter.unusedVariables false
set_option maxRecDepth 100000

/-- Small, in numbers: its value. -/
def SV (b : List Nat) (wo fa ma : Nat) (df mf : Bool) (A : Option Addr) (n c : Nat) : Value :=
  .agg #[.int .u8 (b.getD 0 0 : Nat), .int .u8 (b.getD 1 0 : Nat), .int .u8 (b.getD 2 0 : Nat), .int .u8 (b.getD 3 0 : Nat), .int .u8 (b.getD 4 0 : Nat), .int .u8 (b.getD 5 0 : Nat), .int .u8 (b.getD 6 0 : Nat), .int .u8 (b.getD 7 0 : Nat), .int .u8 (b.getD 8 0 : Nat), .int .u8 (b.getD 9 0 : Nat), .int .u8 (b.getD 10 0 : Nat), .int .u8 (b.getD 11 0 : Nat),
    .int .u8 wo, .int .u8 fa, .int .u8 ma, .bool df, .bool mf, .slice A n c]

variable {H : Type} {enc : TypeId × Value → H} {w : World} {base : Nat} {spare : Nat → Bool} {held : Bool}
theorem one_of {α : Type} {cs : List α} {i : Nat} {v : α} (h : (cs.drop i).take 1 = [v]) : cs[i]? = some v := by
  have := congrArg (·[0]?) h
  simpa [List.getElem?_take, List.getElem?_drop] using this
theorem nat8 {z : Int} (h : (Lit.int .u8 z).wf = true) : ∃ n : Nat, z = n ∧ n < 256 := by
  have hb := bounds_u8 h
  exact ⟨z.toNat, by omega, by omega⟩
theorem u8_cell {P : Program} {t : TypeId} {cs : List Value} {fuel i : Nat} {o : Option (DataW H × List MemPlace)} (hu : P.underlying t = some (.int .u8)) (h : DataW.trod enc P w base spare held fuel t ((cs.drop i).take 1) = o) (ho : ∃ x, o = some x) : ∃ n : Nat, cs[i]? = some (.int .u8 n) ∧ n < 256 := by
  obtain ⟨x, rfl⟩ := ho
  obtain ⟨z, e, _, hz⟩ := DataW.trod_int hu h
  obtain ⟨n, rfl, hn⟩ := nat8 hz
  exact ⟨n, one_of e, hn⟩
theorem bool_cell {P : Program} {t : TypeId} {cs : List Value} {fuel i : Nat} {o : Option (DataW H × List MemPlace)} (hu : P.underlying t = some .bool) (h : DataW.trod enc P w base spare held fuel t ((cs.drop i).take 1) = o) (ho : ∃ x, o = some x) : ∃ b : Bool, cs[i]? = some (.bool b) := by
  obtain ⟨x, rfl⟩ := ho
  obtain ⟨b, e, _⟩ := DataW.trod_bool hu h
  exact ⟨b, one_of e⟩
/-- A slice of bytes among the cells of a struct that came in. -/
theorem bytes_cell {P : Program} {t e : TypeId} {cs : List Value} {fuel i : Nat} {o : Option (DataW H × List MemPlace)} (ht : P.underlying t = some (.slice e)) (he : P.underlying e = some (.int .u8)) (hc : P.cellsOf e = 1)
    (h : DataW.trod enc P w 0 (fun _ => true) held fuel t ((cs.drop i).take 1) = o) (ho : ∃ x, o = some x) :
    ∃ (A : Option Addr) (n c : Nat) (xs : List UInt8), cs[i]? = some (.slice A n c) ∧ xs.length = n ∧ Rd w A (B8 xs) ∧ (A = none → c = 0) ∧ n ≤ c ∧ c ≤ maxLen := by
  obtain ⟨x, rfl⟩ := ho
  rcases open_ints ht he hc h with ⟨hcs, _⟩ | ⟨x, l, c, zs, hcs, _, hl, hm, hz, _, hcell, hwz⟩
  · exact ⟨none, 0, 0, [], one_of hcs, rfl, Rd.nil _ _, fun _ => rfl, Nat.le_refl _, Nat.zero_le _⟩
  · obtain ⟨xs, h1, h2, h3, h4, h5⟩ := row8 (w := w) (a := some x) (n := l) (c := c) (zs := zs) (.inr ⟨x, rfl, hl, hm, by simpa using hz, hcell, hwz⟩)
    exact ⟨some x, l, c, xs, one_of hcs, h1, h2, h3, h4, h5⟩
theorem open_small {b0 : Nat} {v : Value} {d : DataW H} {p : List MemPlace} {r : Reach} (hv : Value.okWide Try.prog w r b0 25 v) (h : DataW.Trod enc Try.prog w 0 (fun _ => true) held 25 v d p) :
    ∃ (b : List Nat) (wo fa ma : Nat) (df mf : Bool) (A : Option Addr) (n c : Nat) (xs : List UInt8), v = SV b wo fa ma df mf A n c ∧ b.length = 12 ∧ (∀ x ∈ b, x < 256) ∧ wo < 256 ∧ fa < 256 ∧ ma < 256 ∧ xs.length = n ∧ Rd w A (B8 xs) ∧ (A = none → c = 0) ∧ n ≤ c ∧ c ≤ maxLen := by
  obtain ⟨cs, rfl, hsz⟩ := okWide_struct Try.underlying25 hv
  have hC : Try.prog.cellsOf 25 = 18 := by kernel_rfl
  rw [hC] at hsz
  obtain ⟨fuel, hf⟩ := h
  have hf' : DataW.trod enc Try.prog w 0 (fun _ => true) held fuel 25 cs.toList = some (d, p) := by simpa [Value.cells] using hf
  obtain ⟨l⟩ := cs
  simp only [List.size_toArray] at hsz
  simp only at hf'
  obtain ⟨xs, m, _, _, hl, hlen, hg⟩ := DataW.trod_struct Try.underlying25 hf'
  have hlen7 : xs.length = 7 := hlen
  have some_ (i : Nat) (hi : i < 7) : ∃ x, xs[i]? = some x := ⟨_, List.getElem?_eq_getElem (by omega)⟩
  have g0 := hg 0 _ rfl
  obtain ⟨y0, hy0⟩ := some_ 0 (by decide)
  rw [hy0] at g0
  have k12 : Try.prog.cellsOf 22 = 12 := by kernel_rfl
  have k1 : Try.prog.cellsOf 5 = 1 := by kernel_rfl
  have g0' : DataW.trod enc Try.prog w 0 (fun _ => true) held m 22 ((l.drop 0).take (Try.prog.cellsOf 22)) = some y0 := g0
  rw [k12, List.drop_zero] at g0'
  obtain ⟨ys, m2, _, _, _, hyl, hgy⟩ := DataW.trod_array Try.underlying22 g0'
  have hb : ∀ i, i < 12 → ∃ n : Nat, l[i]? = some (.int .u8 n) ∧ n < 256 := by
    intro i hi
    have h1 := hgy i hi
    rw [k1, Nat.mul_one] at h1
    obtain ⟨n, e, hn⟩ := u8_cell (w := w) (i := i) Try.underlying5 h1 ⟨_, List.getElem?_eq_getElem (by omega)⟩
    rw [List.getElem?_take, if_pos hi] at e
    exact ⟨n, e, hn⟩
  obtain ⟨a0, e0, n0⟩ := hb 0 (by decide)
  obtain ⟨a1, e1, n1⟩ := hb 1 (by decide)
  obtain ⟨a2, e2, n2⟩ := hb 2 (by decide)
  obtain ⟨a3, e3, n3⟩ := hb 3 (by decide)
  obtain ⟨a4, e4, n4⟩ := hb 4 (by decide)
  obtain ⟨a5, e5, n5⟩ := hb 5 (by decide)
  obtain ⟨a6, e6, n6⟩ := hb 6 (by decide)
  obtain ⟨a7, e7, n7⟩ := hb 7 (by decide)
  obtain ⟨a8, e8, n8⟩ := hb 8 (by decide)
  obtain ⟨a9, e9, n9⟩ := hb 9 (by decide)
  obtain ⟨a10, e10, n10⟩ := hb 10 (by decide)
  obtain ⟨a11, e11, n11⟩ := hb 11 (by decide)
  obtain ⟨wo, e12, n12⟩ := u8_cell (w := w) (cs := l) (i := 12) Try.underlying5 (hg 1 _ rfl) (some_ 1 (by decide))
  obtain ⟨fa, e13, n13⟩ := u8_cell (w := w) (cs := l) (i := 13) Try.underlying5 (hg 2 _ rfl) (some_ 2 (by decide))
  obtain ⟨ma, e14, n14⟩ := u8_cell (w := w) (cs := l) (i := 14) Try.underlying5 (hg 3 _ rfl) (some_ 3 (by decide))
  obtain ⟨df, e15⟩ := bool_cell (w := w) (cs := l) (i := 15) Try.underlying4 (hg 4 _ rfl) (some_ 4 (by decide))
  obtain ⟨mf, e16⟩ := bool_cell (w := w) (cs := l) (i := 16) Try.underlying4 (hg 5 _ rfl) (some_ 5 (by decide))
  obtain ⟨A, n, c, bs, e17, q1, q2, q3, q4, q5⟩ := bytes_cell (w := w) (cs := l) (i := 17) Try.underlying23 Try.underlying5 (by kernel_rfl) (hg 6 _ rfl) (some_ 6 (by decide))
  refine ⟨[a0, a1, a2, a3, a4, a5, a6, a7, a8, a9, a10, a11], wo, fa, ma, df, mf, A, n, c, bs, ?_, rfl, ?_, n12, n13, n14, q1, q2, q3, q4, q5⟩
  · unfold SV
    congr 1
    congr 1
    apply List.ext_getElem?
    intro i
    match i with
    | 0 => exact e0
    | 1 => exact e1
    | 2 => exact e2
    | 3 => exact e3
    | 4 => exact e4
    | 5 => exact e5
    | 6 => exact e6
    | 7 => exact e7
    | 8 => exact e8
    | 9 => exact e9
    | 10 => exact e10
    | 11 => exact e11
    | 12 => exact e12
    | 13 => exact e13
    | 14 => exact e14
    | 15 => exact e15
    | 16 => exact e16
    | 17 => exact e17
    | i + 18 => rw [List.getElem?_eq_none (by omega)]; rfl
  · intro x hx
    simp only [List.mem_cons, List.not_mem_nil, or_false] at hx
    rcases hx with rfl | rfl | rfl | rfl | rfl | rfl | rfl | rfl | rfl | rfl | rfl | rfl <;> assumption
end Go.Proofs.Ytjpcfphmejenoaa
