/- Read: the address of a text. -/
import Derived.Test.YteblkheodjibbaaDoorSpl
import Derived.Test.YteblkheodjibbaaDoorText
import Derived.Laws.BitsAllLaws
import Derived.Test.YteblkheodjibbaaDoorXt
namespace Go.Proofs.YteblkheodjibbaaDoor
open Go.RowKit
set_option linter.unusedVariables false
set_option maxRecDepth 20000

theorem pieces4 (l : List UInt8) (N : Nat) (hN : N = min 4 (l.length + 1)) :
    ((Lib.splitB ⟨#[46]⟩ 0 (N - 1) ⟨l.toArray⟩).length ≠ 4 ∧ ∀ a, l ≠ atext a) ∨
    ∃ x1 x2 x3 x4 : List UInt8, N = 4 ∧ Lib.splitB ⟨#[46]⟩ 0 (N - 1) ⟨l.toArray⟩ = [⟨x1.toArray⟩, ⟨x2.toArray⟩, ⟨x3.toArray⟩, ⟨x4.toArray⟩] ∧ l = x1 ++ 46 :: (x2 ++ 46 :: (x3 ++ 46 :: x4)) ∧ 46 ∉ x1 ∧ 46 ∉ x2 ∧ 46 ∉ x3 := by
  by_cases hL : (Lib.splitB ⟨#[46]⟩ 0 (N - 1) ⟨l.toArray⟩).length = 4
  · have hle := Lib.splitB_length_le ⟨#[46]⟩ 0 (N - 1) ⟨l.toArray⟩
    have hN4 : N = 4 := by omega
    subst hN4
    refine .inr ?_
    rw [show 4 - 1 = 2 + 1 from rfl] at hL ⊢
    rcases split_cases l 46 2 with h | ⟨x1, y1, h1, g1, e1⟩
    · rw [h] at hL; simp at hL
    · rw [e1] at hL ⊢
      rcases split_cases y1 46 1 with h | ⟨x2, y2, h2, g2, e2⟩
      · rw [h] at hL; simp at hL
      · rw [e2] at hL ⊢
        rcases split_cases y2 46 0 with h | ⟨x3, y3, h3, g3, e3⟩
        · rw [h] at hL; simp at hL
        · exact ⟨x1, x2, x3, y3, rfl, by rw [e3]; rfl, by rw [h1, h2, h3], g1, g2, g3⟩
  · refine .inl ⟨hL, fun a e => hL ?_⟩
    have hlen : 7 ≤ l.length := by
      have h1 : ∀ n, 1 ≤ (dec n).length := fun n => by
        have := dec_ne n
        rcases Nat.eq_zero_or_pos (dec n).length with h | h
        · exact absurd (List.eq_nil_of_length_eq_zero h) this
        · exact h
      rw [e]
      unfold atext quad
      have a1 := h1 (a / 16777216)
      have a2 := h1 (a / 65536 % 256)
      have a3 := h1 (a / 256 % 256)
      have a4 := h1 (a % 256)
      simp only [List.length_append, List.length_cons]
      omega
    have hN4 : N = 4 := by omega
    subst hN4
    rw [e]
    unfold atext quad
    rw [show 4 - 1 = 2 + 1 from rfl, split_hit 2 (dec_free dot_dg _), split_hit 1 (dec_free dot_dg _), split_hit 0 (dec_free dot_dg _)]
    rfl

def ReadP (W : World) (s : ByteArray) (e : Ending) (w' : World) : Prop :=
  Fr [] W w' ∧ ((∃ a, a < 4294967296 ∧ s.data.toList = atext a ∧ e = .returned (.tuple #[.int .u32 a, .int .i64 0])) ∨ ((∀ a, a < 4294967296 → s.data.toList ≠ atext a) ∧ e = .returned (.tuple #[.int .u32 0, .int .i64 30])))

/-- The first k of four parts are numbers, and what they make. -/
def Parts (xs : List (List UInt8)) (k a : Nat) : Prop := ∃ ns : List Nat, ns.length = k ∧ (∀ n ∈ ns, n < 256) ∧ xs.take k = ns.map dec ∧ a = ns.foldl (fun a n => a * 256 + n) 0
theorem parts_lt {xs : List (List UInt8)} {k a : Nat} (h : Parts xs k a) : a < 256 ^ k := by
  obtain ⟨ns, rfl, h2, _, rfl⟩ := h
  have : ∀ (ns : List Nat) (b c : Nat), (∀ n ∈ ns, n < 256) → b < c → ns.foldl (fun a n => a * 256 + n) b < c * 256 ^ ns.length := by
    intro ns
    induction ns with
    | nil => intro b c _ h; simpa using h
    | cons n ns ih =>
      intro b c hn hb
      have hn1 := hn n (by simp)
      have := ih (b * 256 + n) (c * 256) (fun m hm => hn m (by simp [hm])) (by omega)
      simp only [List.foldl_cons, List.length_cons]
      rw [Nat.pow_succ, Nat.mul_comm (256 ^ ns.length), ← Nat.mul_assoc]
      exact this
  have := this ns 0 1 h2 (by decide)
  simpa using this
theorem parts_zero (xs : List (List UInt8)) : Parts xs 0 0 := ⟨[], rfl, by simp, by simp, rfl⟩
theorem parts_succ {xs : List (List UInt8)} {k a n : Nat} {x : List UInt8} (h : Parts xs k a) (hx : xs[k]? = some x) (hn : n < 256) (he : x = dec n) : Parts xs (k + 1) (a * 256 + n) := by
  obtain ⟨ns, h1, h2, h3, rfl⟩ := h
  refine ⟨ns ++ [n], by simp [h1], ?_, ?_, by simp⟩
  · intro m hm
    rcases List.mem_append.1 hm with hm | hm
    · exact h2 m hm
    · have : m = n := by simpa using hm
      omega
  · rw [List.take_add_one, hx, h3]
    simp [he]

theorem or_shl {a n : Nat} (ha : a < 16777216) (hn : n < 256) : bits BinOp.or IntKind.u32 ((a * 256 : Nat) : Int) (n : Int) = ((a * 256 + n : Nat) : Int) := by
  rw [u32_or_nat _ _ (by omega) (by omega)]
  congr 1
  have := Nat.two_pow_add_eq_or_of_lt (i := 8) (b := n) (by omega) a
  rw [Nat.mul_comm, show (256 : Nat) = 2 ^ 8 from rfl]
  exact this.symm

theorem parts_uniq {x1 x2 x3 x4 : List UInt8} (g1 : (46 : UInt8) ∉ x1) (g2 : (46 : UInt8) ∉ x2) (g3 : (46 : UInt8) ∉ x3) {a : Nat} (h : x1 ++ 46 :: (x2 ++ 46 :: (x3 ++ 46 :: x4)) = atext a) : [x1, x2, x3, x4] = [a / 16777216, a / 65536 % 256, a / 256 % 256, a % 256].map dec := by
  unfold atext quad at h
  obtain ⟨e1, h⟩ := first_unique g1 (dec_free dot_dg _) h
  obtain ⟨e2, h⟩ := first_unique g2 (dec_free dot_dg _) h
  obtain ⟨e3, e4⟩ := first_unique g3 (dec_free dot_dg _) h
  simp [e1, e2, e3, e4]
set_option maxHeartbeats 4000000 in
theorem read_any (s : ByteArray) (hs : s.size ≤ 281474976710656) (W : World) (hV : VV W) : Calls Tryd.prog 6 #[.string s] W (ReadP W s) := by
  have hS := splitN_any s 46 4 _ W hs (by decide) (by decide) rfl
  rw [size_of] at hS
  rcases pieces4 s.data.toList _ rfl with ⟨h1, h2⟩ | ⟨x1, x2, x3, x4, h1, h2, h3, g1, g2, g3⟩
  · rw [← str_of (s := s) rfl] at h1
    generalize min 4 (s.data.toList.length + 1) = N at hS h1
    generalize Lib.splitB ⟨#[46]⟩ 0 (N - 1) s = L at hS h1
    have hl : ((L.length : Int) == 4) = false := by rw [beq_eq_false_iff_ne]; omega
    have hl2 : ¬ L.length = 4 := h1
    have H2 := Lib.hid h2
    clear h1 h2
    go_enter Tryd.func6, Tryd.ntmps6
    go_wp2_with fail
    refine hS.mono ?_
    rintro e w' ⟨rfl, rfl⟩
    clear hS
    go_wp2_with fail
    go_ret2
    exact ⟨(Fr.refl _ _).alloc _, .inr ⟨fun a _ => H2.out a, rfl⟩⟩
  · rw [← str_of (s := s) rfl] at h2
    rw [h2] at hS
    rw [h1] at hS
    have H3 := Lib.hid h3
    have hsz : x1.length ≤ s.size ∧ x2.length ≤ s.size ∧ x3.length ≤ s.size ∧ x4.length ≤ s.size := by
      rw [size_of, h3]; simp only [List.length_append, List.length_cons]; omega
    clear h1 h2 h3
    obtain ⟨xs, hxs⟩ : ∃ xs, xs = [x1, x2, x3, x4] := ⟨_, rfl⟩
    have hcs : Lib.cellsOf [⟨x1.toArray⟩, ⟨x2.toArray⟩, ⟨x3.toArray⟩, ⟨x4.toArray⟩] 4 = #[.string ⟨x1.toArray⟩, .string ⟨x2.toArray⟩, .string ⟨x3.toArray⟩, .string ⟨x4.toArray⟩] := rfl
    rw [hcs] at hS
    go_enter Tryd.func6, Tryd.ntmps6
    go_wp2_with fail
    refine hS.mono ?_
    rintro e w' ⟨rfl, rfl⟩
    clear hS hcs
    have hF : Fr [] W (W.alloc (.cells #[.string ⟨x1.toArray⟩, .string ⟨x2.toArray⟩, .string ⟨x3.toArray⟩, .string ⟨x4.toArray⟩] 9)) := (Fr.refl _ _).alloc _
    have hcell : ∀ (j : Nat) (x : List UInt8), xs[j]? = some x → (W.alloc (.cells #[.string ⟨x1.toArray⟩, .string ⟨x2.toArray⟩, .string ⟨x3.toArray⟩, .string ⟨x4.toArray⟩] 9)).cell? ⟨W.heap.size, j, none⟩ = some (.string ⟨x.toArray⟩) := fun j x hx => by
      refine new_cell _ _ _ j _ ?_
      rw [hxs] at hx
      match j, hx with
      | 0, hx => simp at hx; subst hx; rfl
      | 1, hx => simp at hx; subst hx; rfl
      | 2, hx => simp at hx; subst hx; rfl
      | 3, hx => simp at hx; subst hx; rfl
      | j + 4, hx => simp at hx
    have hV1 := hV.fr hF
    generalize W.alloc (.cells #[.string ⟨x1.toArray⟩, .string ⟨x2.toArray⟩, .string ⟨x3.toArray⟩, .string ⟨x4.toArray⟩] 9) = w0 at hF hcell hV1 ⊢
    have HC := Lib.hid hcell
    have HX : ∀ a, s.data.toList = atext a → xs = [a / 16777216, a / 65536 % 256, a / 256 % 256, a % 256].map dec := fun a h => by
      rw [hxs]
      exact parts_uniq g1 g2 g3 (H3.out.symm.trans h)
    have HXX := Lib.hid HX
    have HXS := Lib.hid hxs
    have hlen : xs.length = 4 := by rw [hxs]; rfl
    have hsmall : ∀ x ∈ xs, x.length ≤ 281474976710656 := by
      intro x hx
      rw [hxs] at hx
      simp only [List.mem_cons, List.not_mem_nil, or_false] at hx
      rcases hx with rfl | rfl | rfl | rfl <;> omega
    have HL := Lib.hid hlen
    have HSM := Lib.hid hsmall
    clear hcell HX hxs hlen hsmall hsz g1 g2 g3 hV
    go_wp2_with fail
    go_loopw [5, 17] (fun v5 v17 wr => ∃ k a : Nat, k ≤ 4 ∧ v17 = .int .i64 k ∧ v5 = .int .u32 a ∧ Parts xs k a ∧ Fr [] w0 wr) (fun _ i _ => 4 - (intOf i).toNat)
    case atStart => exact ⟨0, 0, by decide, rfl, rfl, parts_zero _, Fr.refl _ _⟩
    case round =>
      obtain ⟨k, a, hk, rfl, rfl, hP, hG⟩ := hrel
      by_cases hlt : k < 4
      · have hkl : k < xs.length := by rw [HL.out]; exact hlt
        obtain ⟨x, hx⟩ : ∃ x, xs[k]? = some x := ⟨_, List.getElem?_eq_getElem hkl⟩
        have hc := hG.cell (HC.out k x hx) (by simp)
        have hi0 : (0 : Int) ≤ (k : Int) ∧ (k : Int) < 4 := by omega
        have hi1 : (k : Int) < 4 := hi0.2
        have hN := num8_any ⟨x.toArray⟩ (by rw [size_of]; exact HSM.out x (List.mem_of_getElem? hx)) _ (hV1.fr hG)
        have ha : a < 16777216 := by
          have h1 := parts_lt hP
          have h2 : 256 ^ k ≤ 256 ^ 3 := Nat.pow_le_pow_right (by decide) (by omega)
          have h3 : (256 : Nat) ^ 3 = 16777216 := by decide
          omega
        have HP := Lib.hid hP
        have HXK := Lib.hid hx
        clear hP hx
        have hi2 : IntKind.i64.wrap ((k : Int) + 1) = (k : Int) + 1 := i64_of (by omega) (by omega)
        go_wp2_with fail
        refine hN.mono ?_
        rintro e w1 ⟨hG1, ⟨n, hn, he, rfl⟩ | ⟨hno, rfl⟩⟩
        · have hsh : IntKind.u32.wrap ((a : Int) * 256) = ((a * 256 : Nat) : Int) := by rw [IntKind.wrap_u32]; omega
          have hor := or_shl ha hn
          have hcv : IntKind.u32.wrap (n : Int) = n := by rw [IntKind.wrap_u32]; omega
          obtain ⟨b, hb⟩ : ∃ b, b = a * 256 := ⟨_, rfl⟩
          obtain ⟨c, hcc⟩ : ∃ c, c = a * 256 + n := ⟨_, rfl⟩
          rw [← hb] at hsh
          rw [← hcc, ← hb] at hor
          have HE := Lib.hid he
          have HB := Lib.hid hcc
          clear he hN hc hb hcc
          go_wp2_with fail
          go_roundw
          case rel => exact ⟨k + 1, c, by omega, by go_num, rfl, by rw [HB.out]; exact parts_succ HP.out HXK.out hn HE.out, hG.trans hG1⟩
          case measure => simp [intOf]; omega
        · have HNO := Lib.hid hno
          clear hno hN hc
          go_wp2_with fail
          go_ret2
          refine ⟨(hF.trans hG).trans hG1, .inr ⟨fun a' ha' he => ?_, rfl⟩⟩
          have h1 := HXX.out a' he
          have h2 := HXK.out
          rw [h1, List.getElem?_map] at h2
          cases h3 : [a' / 16777216, a' / 65536 % 256, a' / 256 % 256, a' % 256][k]? with
          | none => rw [h3] at h2; simp at h2
          | some m =>
            rw [h3] at h2
            have h4 : m < 256 := by
              have := List.mem_of_getElem? h3
              simp only [List.mem_cons, List.not_mem_nil, or_false] at this
              omega
            exact HNO.out m h4 (by simpa using h2.symm)
      · obtain rfl : k = 4 := by omega
        have ha := parts_lt hP
        have HP := Lib.hid hP
        clear hP
        go_wp2_with fail
        go_ret2
        refine ⟨hF.trans hG, .inl ⟨a, by simpa using ha, ?_, rfl⟩⟩
        obtain ⟨ns, q1, q2, q3, q4⟩ := HP.out
        rw [H3.out]
        match ns, q1 with
        | [n1, n2, n3, n4], _ =>
          rw [HXS.out] at q3
          simp only [List.take_succ_cons, List.take_zero, List.map_cons, List.map_nil, List.cons.injEq, and_true] at q3
          obtain ⟨r1, r2, r3, r4⟩ := q3
          have z := quad_atext (q2 n1 (by simp)) (q2 n2 (by simp)) (q2 n3 (by simp)) (q2 n4 (by simp))
          rw [q4, r1, r2, r3, r4]
          refine (show quad n1 n2 n3 n4 = _ from z.1).trans ?_
          simp only [List.foldl_cons, List.foldl_nil, Nat.zero_mul, Nat.zero_add]
end Go.Proofs.YteblkheodjibbaaDoor
