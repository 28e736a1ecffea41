/- From the row's condition on the library's variables to what the walks are told; structs of integers by value, opened. -/
import Derived.Test.YtjfadoealhlccaaGreatDoorRows
import Derived.Test.YtjfadoealhlccaaGreatDoorVars
import Derived.Test.YtjfadoealhlccaaGreatDoorKey
import Derived.Lay
import Derived.Lib.LaidU8
import Derived.Stop.LaidErr
import Derived.ChangeSame
import Derived.ChangeArms
namespace Go.Proofs.YtjfadoealhlccaaGreatDoor
open Go.RowKit Go.Lib
open Go.WideShapes Go.ChangeShapes
set_option linter.unusedVariables false
set_option maxRecDepth 100000

theorem reads_tab {P : Program} {W : World} {name : String} {k : IntKind} {zs : List Int} {g : Nat} {t e : TypeId} {n : Nat} {d : DataW Unit}
    (hg : P.globalNamed name = some g) (hty : (P.globals[g]?).map (·.type) = some t) (ht : P.underlying t = some (.array n e)) (he : P.underlying e = some (.int k)) (hce : P.cellsOf e = 1) (hct : P.cellsOf t = n)
    (h : VarReads P W name d) (hd : d = tabData k zs) : TabIs P W name k zs := by
  subst hd
  obtain ⟨g', t', cs, fuel, p, hg', ht', hvar, hd⟩ := h
  obtain rfl := Option.some.inj (hg.symm.trans hg')
  obtain rfl := Option.some.inj (hty.symm.trans ht')
  unfold TabIs
  rw [hvar, ← cells_of_tab ht he hce hct hd]

abbrev laidL : List (String × DataW Unit) := [("math/bits.deBruijn32tab", Rows.laid_math_bits_deBruijn32tab), ("math/bits.deBruijn64tab", Rows.laid_math_bits_deBruijn64tab), ("internal/strconv.uint64pow10", Rows.laid_internal_strconv_uint64pow10), ("unicode/utf8.acceptRanges", Rows.laid_unicode_utf8_acceptRanges), ("strconv.ErrRange", Rows.laid_strconv_ErrRange), ("strconv.ErrSyntax", Rows.laid_strconv_ErrSyntax), ("unicode/utf8.first", Rows.laid_unicode_utf8_first)]

theorem gP : Tryz.prog.globalNamed "internal/strconv.uint64pow10" = some 2 := by kernel_rfl
theorem gD : Tryz.prog.globalNamed "math/bits.deBruijn32tab" = some 1 := by kernel_rfl
theorem gER : Tryz.prog.globalNamed "strconv.ErrRange" = some 6 := by kernel_rfl
theorem gES : Tryz.prog.globalNamed "strconv.ErrSyntax" = some 5 := by kernel_rfl
theorem starE : "*" ++ "errors.errorString" = "*errors.errorString" := by decide
theorem rowE (u : TypeId) (h : Tryz.prog.typeName? 3 u = some "*errors.errorString") : u = 186 :=
  typeName_ptr_named (nm := "errors.errorString") (by rw [starE]; kernel_rfl) (by kernel_rfl) (by decide) u (by rw [starE]; exact h)
theorem laid_err {n : String} {text : List UInt8} {r : List (String × DataW Unit)} {W : World} {g : Nat} (hg : Tryz.prog.globalNamed n = some g) (ht : (Tryz.prog.globals[g]?).map (·.type) = some 100)
    (h : laidMet Tryz.prog ((n, .iface "*errors.errorString" (.ptr (.agg [.lit (.string text)]))) :: r) W) : ∃ te pe, W.cell? ⟨g, 0, none⟩ = some (.iface te pe) := by
  obtain ⟨a0, s0, hv0, -, -, -⟩ := laid_sentinel h hg ht Tryz.underlying100 rowE Tryz.underlying186 Tryz.underlying188 rfl rfl Tryz.underlying9 (by kernel_rfl) (by kernel_rfl)
  have h0 := World.var?_cell hg hv0 0
  exact ⟨_, _, by simpa using h0⟩
theorem vv_laid {W : World} (h : laidMet Tryz.prog laidL W) : VV W := by
  have hd : TabIs Tryz.prog W "math/bits.deBruijn32tab" .u8 (deBruijn32tab.map fun x : Nat => (x : Int)) := reads_tab gD (t := 166) (by kernel_rfl) (e := 5) (n := 32) (by kernel_rfl) (by kernel_rfl) (by kernel_rfl) (by kernel_rfl) (laidMet.reads h (n := "math/bits.deBruijn32tab") (d := Rows.laid_math_bits_deBruijn32tab) (.head _)) (by kernel_rfl)
  refine ⟨?_, ?_, ?_, ?_⟩
  · exact reads_tab gP (t := 172) (by kernel_rfl) (e := 67) (n := 20) (by kernel_rfl) (by kernel_rfl) (by kernel_rfl) (by kernel_rfl) (laidMet.reads h (n := "internal/strconv.uint64pow10") (d := Rows.laid_internal_strconv_uint64pow10) (.tail _ (.tail _ (.head _)))) (by kernel_rfl)
  · exact laid_err gES (by kernel_rfl) h.tail.tail.tail.tail.tail
  · exact laid_err gER (by kernel_rfl) h.tail.tail.tail.tail
  · intro j hj
    have hj2 : j < 32 := hj
    have h1 := hd.cell gD j (by simpa using hj)
    rw [h1]
    congr 2
    simp [List.getD_eq_getElem?_getD, List.getElem?_eq_getElem hj]

/-! ### Structs by value -/
variable {H : Type} {enc : TypeId × Value → H} {w : World} {base : Nat} {spare : Nat → Bool} {held : Bool}
theorem fld {P : Program} {t : TypeId} {fs : Array Field} {cs : Array Value} {fuel : Nat} {x : DataW H × List MemPlace} {i : Nat} {f : Field} {k : IntKind} (hs : P.underlying t = some (.struct fs))
    (h : DataW.trod enc P w base spare held fuel t cs.toList = some x) (hi : fs[i]? = some f) (ho : f.offset = i) (hc : P.cellsOf f.type = 1) (hu : P.underlying f.type = some (.int k)) : ∃ z, cs[i]? = some (.int k z) ∧ (Lit.int k z).wf = true := by
  obtain ⟨xs, n, _, rfl, hl, hlen, hf⟩ := DataW.trod_struct hs h
  have h1 := hf i f hi
  rw [ho, hc] at h1
  have hx : i < xs.length := by
    have := (Array.getElem?_eq_some_iff.1 hi).1
    omega
  rw [List.getElem?_eq_getElem hx] at h1
  obtain ⟨z, e, _, hz⟩ := DataW.trod_int hu h1
  refine ⟨z, ?_, hz⟩
  have := congrArg (·[0]?) e
  simpa [List.getElem?_take, List.getElem?_drop] using this
theorem nat_of {k : IntKind} {z : Int} (h : (Lit.int k z).wf = true) (hm : k.min = 0) : ∃ n : Nat, z = n ∧ (n : Int) ≤ k.max := by
  simp only [Lit.wf, hm, Bool.and_eq_true, decide_eq_true_eq] at h
  exact ⟨z.toNat, by omega, by omega⟩
theorem open_prefix {b0 : Nat} {v : Value} {d : DataW H} {p : List MemPlace} {r : Reach} (hv : Value.okWide Tryz.prog w r b0 55 v) (h : DataW.Trod enc Tryz.prog w base spare held 55 v d p) :
    ∃ a n : Nat, v = .agg #[.int .u32 a, .int .u8 n] ∧ a < 4294967296 ∧ n < 256 := by
  obtain ⟨cs, rfl, hsz⟩ := okWide_struct Tryz.underlying55 hv
  have hC : Tryz.prog.cellsOf 55 = 2 := by kernel_rfl
  rw [hC] at hsz
  obtain ⟨fuel, hf⟩ := h
  have hf' : DataW.trod enc Tryz.prog w base spare held fuel 55 cs.toList = some (d, p) := by simpa [Value.cells] using hf
  obtain ⟨z0, e0, w0⟩ := fld (i := 0) (k := .u32) Tryz.underlying55 hf' rfl rfl (by kernel_rfl) (by kernel_rfl)
  obtain ⟨z1, e1, w1⟩ := fld (i := 1) (k := .u8) Tryz.underlying55 hf' rfl rfl (by kernel_rfl) (by kernel_rfl)
  obtain ⟨n0, rfl, m0⟩ := nat_of w0 rfl
  obtain ⟨n1, rfl, m1⟩ := nat_of w1 rfl
  have k0 : IntKind.u32.max = 4294967295 := rfl
  have k1 : IntKind.u8.max = 255 := rfl
  refine ⟨n0, n1, ?_, by omega, by omega⟩
  congr 1
  obtain ⟨l⟩ := cs
  match l, hsz, e0, e1 with
  | [x0, x1], _, e0, e1 => simp at e0 e1; rw [e0, e1]
theorem open_nat {k : IntKind} {P : Program} {t : TypeId} {b0 : Nat} {v : Value} {d : DataW H} {p : List MemPlace} {r : Reach} (hu : P.underlying t = some (.int k)) (hm : k.min = 0) (hv : Value.okWide P w r b0 t v) (h : DataW.Trod enc P w base spare held t v d p) : ∃ n : Nat, v = .int k n ∧ (n : Int) ≤ k.max := by
  obtain ⟨a1, rfl, rfl, rfl, w1⟩ := open_int hu hv h
  obtain ⟨n, rfl, m⟩ := nat_of w1 hm
  exact ⟨n, rfl, m⟩
end Go.Proofs.YtjfadoealhlccaaGreatDoor
