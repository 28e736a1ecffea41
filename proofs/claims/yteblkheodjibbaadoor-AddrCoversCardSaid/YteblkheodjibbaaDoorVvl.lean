/- From the row's condition on the library's variables to what the walks are told; structs of integers by value, opened. -/
import Derived.Test.YteblkheodjibbaaDoorRows
import Derived.Test.YteblkheodjibbaaDoorVars
import Derived.Test.YteblkheodjibbaaDoorKey
import Derived.Lay
import Derived.Lib.LaidU8
import Derived.Stop.LaidErr
import Derived.ChangeSame
import Derived.ChangeArms
namespace Go.Proofs.YteblkheodjibbaaDoor
open Go.RowKit Go.Lib
open Go.WideShapes Go.ChangeShapes
set_option linter.unusedVariables false
set_option maxRecDepth 100000

theorem reads_tab {P : Program} {W : World} {name : String} {k : IntKind} {zs : List Int} {g : Nat} {t e : TypeId} {n : Nat} {d : DataW Unit}
    (hg : P.globalNamed name = some g) (hty : (P.globals[g]?).map (·.type) = some t) (ht : P.underlying t = some (.array n e)) (he : P.underlying e = some (.int k)) (hce : P.cellsOf e = 1) (hct : P.cellsOf t = n)
    (h : VarReads P W name d) (hd : d = tabData k zs) : TabIs P W name k zs := by
  subst hd
  obtain ⟨g', t', cs, fuel, p, hg', ht', hvar, hd⟩ := h
  obtain rfl := Option.some.inj (hg.symm.trans hg')
  obtain rfl := Option.some.inj (hty.symm.trans ht')
  unfold TabIs
  rw [hvar, ← cells_of_tab ht he hce hct hd]

abbrev laidL : List (String × DataW Unit) := [("math/bits.deBruijn32tab", Rows.laid_math_bits_deBruijn32tab), ("math/bits.deBruijn64tab", Rows.laid_math_bits_deBruijn64tab), ("internal/strconv.uint64pow10", Rows.laid_internal_strconv_uint64pow10), ("unicode/utf8.acceptRanges", Rows.laid_unicode_utf8_acceptRanges), ("strconv.ErrRange", Rows.laid_strconv_ErrRange), ("strconv.ErrSyntax", Rows.laid_strconv_ErrSyntax), ("unicode/utf8.first", Rows.laid_unicode_utf8_first)]

theorem gP : Tryd.prog.globalNamed "internal/strconv.uint64pow10" = some 6 := by kernel_rfl
theorem gD : Tryd.prog.globalNamed "math/bits.deBruijn32tab" = some 1 := by kernel_rfl
theorem gER : Tryd.prog.globalNamed "strconv.ErrRange" = some 3 := by kernel_rfl
theorem gES : Tryd.prog.globalNamed "strconv.ErrSyntax" = some 2 := by kernel_rfl
theorem starE : "*" ++ "errors.errorString" = "*errors.errorString" := by decide
theorem rowE (u : TypeId) (h : Tryd.prog.typeName? 3 u = some "*errors.errorString") : u = 122 :=
  typeName_ptr_named (nm := "errors.errorString") (by rw [starE]; kernel_rfl) (by kernel_rfl) (by decide) u (by rw [starE]; exact h)
theorem laid_err {n : String} {text : List UInt8} {r : List (String × DataW Unit)} {W : World} {g : Nat} (hg : Tryd.prog.globalNamed n = some g) (ht : (Tryd.prog.globals[g]?).map (·.type) = some 82)
    (h : laidMet Tryd.prog ((n, .iface "*errors.errorString" (.ptr (.agg [.lit (.string text)]))) :: r) W) : ∃ te pe, W.cell? ⟨g, 0, none⟩ = some (.iface te pe) := by
  obtain ⟨a0, s0, hv0, -, -, -⟩ := laid_sentinel h hg ht Tryd.underlying82 rowE Tryd.underlying122 Tryd.underlying124 rfl rfl Tryd.underlying9 (by kernel_rfl) (by kernel_rfl)
  have h0 := World.var?_cell hg hv0 0
  exact ⟨_, _, by simpa using h0⟩
theorem vv_laid {W : World} (h : laidMet Tryd.prog laidL W) : VV W := by
  have hd : TabIs Tryd.prog W "math/bits.deBruijn32tab" .u8 (deBruijn32tab.map fun x : Nat => (x : Int)) := reads_tab gD (t := 105) (by kernel_rfl) (e := 5) (n := 32) (by kernel_rfl) (by kernel_rfl) (by kernel_rfl) (by kernel_rfl) (laidMet.reads h (n := "math/bits.deBruijn32tab") (d := Rows.laid_math_bits_deBruijn32tab) (.head _)) (by kernel_rfl)
  refine ⟨?_, ?_, ?_, ?_⟩
  · exact reads_tab gP (t := 126) (by kernel_rfl) (e := 50) (n := 20) (by kernel_rfl) (by kernel_rfl) (by kernel_rfl) (by kernel_rfl) (laidMet.reads h (n := "internal/strconv.uint64pow10") (d := Rows.laid_internal_strconv_uint64pow10) (.tail _ (.tail _ (.head _)))) (by kernel_rfl)
  · exact laid_err gES (by kernel_rfl) h.tail.tail.tail.tail.tail
  · exact laid_err gER (by kernel_rfl) h.tail.tail.tail.tail
  · intro j hj
    have hj2 : j < 32 := hj
    have h1 := hd.cell gD j (by simpa using hj)
    rw [h1]
    congr 2
    simp [List.getD_eq_getElem?_getD, List.getElem?_eq_getElem hj]

/-! ### Structs by value -/
variable {H : Type} {enc : TypeId × Value → H} {w : World} {base : Nat} {spare : Nat → Bool} {held : Bool}
theorem fld {P : Program} {t : TypeId} {fs : Array Field} {cs : Array Value} {fuel : Nat} {x : DataW H × List MemPlace} {i : Nat} {f : Field} {k : IntKind} (hs : P.underlying t = some (.struct fs))
    (h : DataW.trod enc P w base spare held fuel t cs.toList = some x) (hi : fs[i]? = some f) (ho : f.offset = i) (hc : P.cellsOf f.type = 1) (hu : P.underlying f.type = some (.int k)) : ∃ z, cs[i]? = some (.int k z) ∧ (Lit.int k z).wf = true := by
  obtain ⟨xs, n, _, rfl, hl, hlen, hf⟩ := DataW.trod_struct hs h
  have h1 := hf i f hi
  rw [ho, hc] at h1
  have hx : i < xs.length := by
    have := (Array.getElem?_eq_some_iff.1 hi).1
    omega
  rw [List.getElem?_eq_getElem hx] at h1
  obtain ⟨z, e, _, hz⟩ := DataW.trod_int hu h1
  refine ⟨z, ?_, hz⟩
  have := congrArg (·[0]?) e
  simpa [List.getElem?_take, List.getElem?_drop] using this
theorem nat_of {k : IntKind} {z : Int} (h : (Lit.int k z).wf = true) (hm : k.min = 0) : ∃ n : Nat, z = n ∧ (n : Int) ≤ k.max := by
  simp only [Lit.wf, hm, Bool.and_eq_true, decide_eq_true_eq] at h
  exact ⟨z.toNat, by omega, by omega⟩
theorem open_prefix {b0 : Nat} {v : Value} {d : DataW H} {p : List MemPlace} {r : Reach} (hv : Value.okWide Tryd.prog w r b0 34 v) (h : DataW.Trod enc Tryd.prog w base spare held 34 v d p) :
    ∃ a n : Nat, v = .agg #[.int .u32 a, .int .u8 n] ∧ a < 4294967296 ∧ n < 256 := by
  obtain ⟨cs, rfl, hsz⟩ := okWide_struct Tryd.underlying34 hv
  have hC : Tryd.prog.cellsOf 34 = 2 := by kernel_rfl
  rw [hC] at hsz
  obtain ⟨fuel, hf⟩ := h
  have hf' : DataW.trod enc Tryd.prog w base spare held fuel 34 cs.toList = some (d, p) := by simpa [Value.cells] using hf
  obtain ⟨z0, e0, w0⟩ := fld (i := 0) (k := .u32) Tryd.underlying34 hf' rfl rfl (by kernel_rfl) (by kernel_rfl)
  obtain ⟨z1, e1, w1⟩ := fld (i := 1) (k := .u8) Tryd.underlying34 hf' rfl rfl (by kernel_rfl) (by kernel_rfl)
  obtain ⟨n0, rfl, m0⟩ := nat_of w0 rfl
  obtain ⟨n1, rfl, m1⟩ := nat_of w1 rfl
  have k0 : IntKind.u32.max = 4294967295 := rfl
  have k1 : IntKind.u8.max = 255 := rfl
  refine ⟨n0, n1, ?_, by omega, by omega⟩
  congr 1
  obtain ⟨l⟩ := cs
  match l, hsz, e0, e1 with
  | [x0, x1], _, e0, e1 => simp at e0 e1; rw [e0, e1]
theorem open_range {b0 : Nat} {v : Value} {d : DataW H} {p : List MemPlace} {r : Reach} (hv : Value.okWide Tryd.prog w r b0 25 v) (h : DataW.Trod enc Tryd.prog w base spare held 25 v d p) :
    ∃ a n : Nat, v = .agg #[.int .u16 a, .int .u16 n] ∧ a < 65536 ∧ n < 65536 := by
  obtain ⟨cs, rfl, hsz⟩ := okWide_struct Tryd.underlying25 hv
  have hC : Tryd.prog.cellsOf 25 = 2 := by kernel_rfl
  rw [hC] at hsz
  obtain ⟨fuel, hf⟩ := h
  have hf' : DataW.trod enc Tryd.prog w base spare held fuel 25 cs.toList = some (d, p) := by simpa [Value.cells] using hf
  obtain ⟨z0, e0, w0⟩ := fld (i := 0) (k := .u16) Tryd.underlying25 hf' rfl rfl (by kernel_rfl) (by kernel_rfl)
  obtain ⟨z1, e1, w1⟩ := fld (i := 1) (k := .u16) Tryd.underlying25 hf' rfl rfl (by kernel_rfl) (by kernel_rfl)
  obtain ⟨n0, rfl, m0⟩ := nat_of w0 rfl
  obtain ⟨n1, rfl, m1⟩ := nat_of w1 rfl
  have k0 : IntKind.u16.max = 65535 := rfl
  refine ⟨n0, n1, ?_, by omega, by omega⟩
  congr 1
  obtain ⟨l⟩ := cs
  match l, hsz, e0, e1 with
  | [x0, x1], _, e0, e1 => simp at e0 e1; rw [e0, e1]
theorem open_key {b0 : Nat} {v : Value} {d : DataW H} {p : List MemPlace} {r : Reach} (hv : Value.okWide Tryd.prog w r b0 27 v) (h : DataW.Trod enc Tryd.prog w base spare held 27 v d p) :
    ∃ k a b p q : Nat, v = KV k a b p q ∧ KOK k a b p q := by
  obtain ⟨cs, rfl, hsz⟩ := okWide_struct Tryd.underlying27 hv
  have hC : Tryd.prog.cellsOf 27 = 5 := by kernel_rfl
  rw [hC] at hsz
  obtain ⟨fuel, hf⟩ := h
  have hf' : DataW.trod enc Tryd.prog w base spare held fuel 27 cs.toList = some (d, p) := by simpa [Value.cells] using hf
  obtain ⟨z0, e0, w0⟩ := fld (i := 0) (k := .u8) Tryd.underlying27 hf' rfl rfl (by kernel_rfl) (by kernel_rfl)
  obtain ⟨z1, e1, w1⟩ := fld (i := 1) (k := .u32) Tryd.underlying27 hf' rfl rfl (by kernel_rfl) (by kernel_rfl)
  obtain ⟨z2, e2, w2⟩ := fld (i := 2) (k := .u32) Tryd.underlying27 hf' rfl rfl (by kernel_rfl) (by kernel_rfl)
  obtain ⟨z3, e3, w3⟩ := fld (i := 3) (k := .u16) Tryd.underlying27 hf' rfl rfl (by kernel_rfl) (by kernel_rfl)
  obtain ⟨z4, e4, w4⟩ := fld (i := 4) (k := .u16) Tryd.underlying27 hf' rfl rfl (by kernel_rfl) (by kernel_rfl)
  obtain ⟨n0, rfl, m0⟩ := nat_of w0 rfl
  obtain ⟨n1, rfl, m1⟩ := nat_of w1 rfl
  obtain ⟨n2, rfl, m2⟩ := nat_of w2 rfl
  obtain ⟨n3, rfl, m3⟩ := nat_of w3 rfl
  obtain ⟨n4, rfl, m4⟩ := nat_of w4 rfl
  have k0 : IntKind.u16.max = 65535 := rfl
  have k1 : IntKind.u8.max = 255 := rfl
  have k2 : IntKind.u32.max = 4294967295 := rfl
  refine ⟨n0, n1, n2, n3, n4, ?_, ⟨by omega, by omega, by omega, by omega, by omega⟩⟩
  unfold KV
  congr 1
  obtain ⟨l⟩ := cs
  match l, hsz, e0, e1, e2, e3, e4 with
  | [x0, x1, x2, x3, x4], _, e0, e1, e2, e3, e4 => simp at e0 e1 e2 e3 e4; rw [e0, e1, e2, e3, e4]
theorem open_nat {k : IntKind} {P : Program} {t : TypeId} {b0 : Nat} {v : Value} {d : DataW H} {p : List MemPlace} {r : Reach} (hu : P.underlying t = some (.int k)) (hm : k.min = 0) (hv : Value.okWide P w r b0 t v) (h : DataW.Trod enc P w base spare held t v d p) : ∃ n : Nat, v = .int k n ∧ (n : Int) ≤ k.max := by
  obtain ⟨a1, rfl, rfl, rfl, w1⟩ := open_int hu hv h
  obtain ⟨n, rfl, m⟩ := nat_of w1 hm
  exact ⟨n, rfl, m⟩
end Go.Proofs.YteblkheodjibbaaDoor
