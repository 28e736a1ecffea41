/- What the walks are told of the library's own variables; the library's contracts in our words. -/
import Derived.Test.YtjfadoealhlccaaGreatDoorLay
import Derived.Test.YtjfadoealhlccaaGreatDoorDec
import Derived.Lib.AtoiErrMem
import Derived.Sort.Grow
namespace Go.Proofs.YtjfadoealhlccaaGreatDoor
open Go.RowKit
set_option linter.unusedVariables false

structure VV (w : World) : Prop where
  pow : Lib.TabIs Tryz.prog w "internal/strconv.uint64pow10" .u64 Lib.pow10Tab
  es : ∃ te pe, w.cell? ⟨5, 0, none⟩ = some (.iface te pe)
  er : ∃ te pe, w.cell? ⟨6, 0, none⟩ = some (.iface te pe)
  bits : TabAt 1 Lib.deBruijn32tab w

theorem tabIs_fr {P : Program} {w w' : World} {name : String} {k : IntKind} {zs : List Int} (h : Lib.TabIs P w name k zs) (hF : Fr [] w w') : Lib.TabIs P w' name k zs := by
  unfold Lib.TabIs World.var? at h ⊢
  cases hg : P.globalNamed name with
  | none => simp [hg] at h
  | some g =>
    simp only [hg, Option.bind_some] at h ⊢
    have hlt : g < w.heap.size := by
      rcases Nat.lt_or_ge g w.heap.size with h' | h'
      · exact h'
      · simp [Array.getElem?_eq_none h'] at h
    rw [hF.block g hlt (by simp)]
    exact h
theorem VV.fr {w w' : World} (h : VV w) (hF : Fr [] w w') : VV w' := by
  refine ⟨tabIs_fr h.pow hF, ?_, ?_, fun j hj => hF.cell (h.bits j hj) (by simp)⟩
  · obtain ⟨a, b, hc⟩ := h.es; exact ⟨a, b, hF.cell hc (by simp)⟩
  · obtain ⟨a, b, hc⟩ := h.er; exact ⟨a, b, hF.cell hc (by simp)⟩

theorem fr_grow (w : World) (os : Array Obj) : Fr [] w (Go.Sort.grow w os) := ⟨rfl, rfl, rfl, by simp [Go.Sort.grow], fun k hk _ => by simp [Go.Sort.grow, Array.getElem?_append_left hk]⟩

theorem itoa_any (n : Nat) (hn : n ≤ 9223372036854775807) (W : World) (hV : VV W) : Calls Tryz.prog 124 #[.int .i64 n] W fun e w' => e = .returned (.string ⟨(dec n).toArray⟩) ∧ Fr [] W w' := by
  refine (show Calls Tryz.prog 124 #[.int .i64 (n : Int)] W _ from Any.strconv_Itoa lays171 (n : Int) (by omega) (by omega) W hV.pow).mono ?_
  rintro e w' ⟨rfl, k, os, rfl⟩
  exact ⟨by rw [Lib.itoa_nonneg]; rfl, ((Fr.refl [] W).drewN k).trans (fr_grow _ os)⟩

/-- ParseUint(s, 10, 16): the number; or an error that is not nil. -/
def PuP (W : World) (s : ByteArray) (e : Ending) (w' : World) : Prop :=
  Fr [] W w' ∧ ((∃ u, Lib.parseUintB 16 s.data.toList = .ok u ∧ e = .returned (.tuple #[.int .u64 u, .nilIface])) ∨ ((∀ u, Lib.parseUintB 16 s.data.toList ≠ .ok u) ∧ ∃ (v : Int) (t : TypeId) (a : Addr), e = .returned (.tuple #[.int .u64 v, .iface t (.pointer (some a))])))
theorem parse_any (s : ByteArray) (hs : s.size ≤ 281474976710656) (W : World) (hV : VV W) : Calls Tryz.prog 72 #[.string s, .int .i64 10, .int .i64 16] W (PuP W s) := by
  cases h : Lib.parseUintB 16 s.data.toList with
  | ok u =>
    refine (show Calls Tryz.prog 72 #[.string s, .int .i64 10, .int .i64 16] W _ from Any.strconv_ParseUint_10_at16_ok laysPu14 s (by omega) u h W).mono ?_
    rintro e w' ⟨rfl, hw⟩
    refine ⟨?_, .inl ⟨u, h, rfl⟩⟩
    rcases hw with rfl | rfl
    · exact Fr.refl _ _
    · exact Fr.ofBelow (Lib.bytesWorld_below _ _ _)
  | «syntax» =>
    obtain ⟨te, pe, hc⟩ := hV.es
    refine (show Calls Tryz.prog 72 #[.string s, .int .i64 10, .int .i64 16] W _ from Any.strconv_ParseUint_10_at16_syntax laysPu14 s hs h _ W hc (.inr ⟨te, pe, rfl⟩)).mono ?_
    rintro e w' ⟨N, rfl, -, -, hb⟩
    exact ⟨Fr.ofBelow hb, .inr ⟨fun u hu => (by rw [h] at hu; cases hu), _, _, _, rfl⟩⟩
  | range =>
    obtain ⟨te, pe, hc⟩ := hV.er
    refine (show Calls Tryz.prog 72 #[.string s, .int .i64 10, .int .i64 16] W _ from Any.strconv_ParseUint_10_at16_range laysPu14 s hs h _ W hc (.inr ⟨te, pe, rfl⟩)).mono ?_
    rintro e w' ⟨N, rfl, -, -, hb⟩
    exact ⟨Fr.ofBelow hb, .inr ⟨fun u hu => (by rw [h] at hu; cases hu), _, _, _, rfl⟩⟩

theorem index_any (s : ByteArray) (c : UInt8) (W : World) : Calls Tryz.prog 91 #[.string s, .string ⟨#[c]⟩] W fun e w' => e = .returned (.int .i64 (Lib.indexByte s.data.toList c)) ∧ w' = W :=
  Any.strings_Index_one lays143 s c W
theorem index2_any (s : ByteArray) (c : UInt8) (W : World) : Calls Tryz.prog 106 #[.string s, .string ⟨#[c]⟩] W fun e w' => e = .returned (.int .i64 (Lib.indexByte s.data.toList c)) ∧ w' = W :=
  Any.stringslite_Index_one lays219 s c W
theorem ctz_any (x : Nat) (hx : x < 4294967296) (W : World) (hV : VV W) : Calls Tryz.prog 95 #[.int .u32 x] W fun e w' => e = .returned (.int .i64 (Lib.ctz 32 x)) ∧ w' = W :=
  Any7.bits_TrailingZeros32 lays28 x hx W fun _ => hV.bits
end Go.Proofs.YtjfadoealhlccaaGreatDoor
