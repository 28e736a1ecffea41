/- OptsWrong's options in mathematics; rows of noughts that are made; rows of options. -/
import Derived.Test.YtekhjpiopbkoaaaOrq
import Derived.Test.YtekhjpiopbkoaaaOct
import Derived.Test.YtekhjpiopbkoaaaAfl
import Derived.Laws.OwnMore
import Derived.Laws.BitsAllLaws
namespace Go.Proofs.Ytekhjpiopbkoaaa
open Go.RowKit
set_option linter.unusedVariables false
set_option maxRecDepth 100000

/-- An option that is wrong in the way q. -/
structure Bad (q K : Nat) (D : List UInt8) : Prop where
  k : K < 256
  len : D.length ≤ 300
  bad : rightO K D = false
  two : 1 < q → q ≠ 6 → 2 ≤ K
theorem Bad.rts {q K : Nat} {D : List UInt8} (h : Bad q K D) : rtsB K D = false := by
  unfold rtsB
  split
  · exact h.bad
  · rfl
theorem bad_dem {K : Nat} {D : List UInt8} (h : demB K D = false) : rightO K D = false := by unfold rightO; rw [h, Bool.and_false]
theorem bad0 : Bad 0 0 [] := ⟨by decide, by decide, by decide, by omega⟩
theorem bad1 (x : UInt8) : Bad 1 1 [x] := ⟨by decide, by simp, bad_dem (by unfold demB; rw [if_neg (by decide), if_pos rfl]; simp), by omega⟩
theorem bad2 {z : Nat} (h : z = 0 ∨ z = 1 ∨ z = 3) : Bad 2 148 (List.replicate z 0) :=
  ⟨by decide, by simp; omega, bad_dem (by unfold demB; rw [if_neg (by decide), if_neg (by decide), if_neg (by decide), if_neg (by decide), if_pos rfl]; simp; omega), by omega⟩
theorem bt_ofNat {v : Nat} (h : v < 256) (l : List UInt8) : bt (UInt8.ofNat v :: l) 0 = v := ofNat_nat h
theorem bad3 {v : Nat} (h : v < 256) (h4 : v % 4 ≠ 0) : Bad 3 7 [UInt8.ofNat v, 0, 0, 0, 0] :=
  ⟨by decide, by simp, bad_dem (by unfold demB; rw [if_neg (by decide), if_neg (by decide), if_pos (by decide)]; unfold ptB; rw [bt_ofNat h]; simp; omega), by omega⟩
theorem bad4 {v : Nat} (h : v < 256) (h4 : 12 ≤ v) : Bad 4 137 [UInt8.ofNat v, 0, 0, 0, 0] :=
  ⟨by decide, by simp, bad_dem (by unfold demB; rw [if_neg (by decide), if_neg (by decide), if_pos (by decide)]; unfold ptB; rw [bt_ofNat h]; simp; omega), by omega⟩
theorem bad5 {v : Nat} (h : v < 256) (h4 : 4 ≤ v % 16) : Bad 5 68 [5, UInt8.ofNat v] :=
  ⟨by decide, by simp, bad_dem (by
    unfold demB; rw [if_neg (by decide), if_neg (by decide), if_neg (by decide), if_pos rfl]
    have e : stampN [5, UInt8.ofNat v] = 0 := by
      unfold stampN
      have e1 : bt [5, UInt8.ofNat v] 1 = v := ofNat_nat h
      rw [e1, if_neg (by simp), if_neg (by omega), if_neg (by omega)]
    rw [e]; rfl), by omega⟩
theorem bad6 {z : Nat} (h : 38 < z) (h3 : z ≤ 300) : Bad 6 200 (List.replicate z 0) :=
  ⟨by decide, by simp; omega, by unfold rightO; simp; omega, by omega⟩
theorem bad7 {z : Nat} (h : 2 ≤ z ∧ z ≤ 4) : Bad 7 131 (List.replicate z 0) :=
  ⟨by decide, by simp; omega, bad_dem (by unfold demB; rw [if_neg (by decide), if_neg (by decide), if_pos (by decide)]; unfold ptB; simp; omega), by omega⟩
/-- Its bytes are not read. -/
theorem bad_read {q K : Nat} {D : List UInt8} (h : Bad q K D) (h2 : 2 ≤ K) (hl : 2 + D.length < 256) (L : List (Nat × List UInt8)) (hO : ∀ p ∈ L, OkP p) (ht : twP [] L = false) : rdF [] (flatP L ++ (UInt8.ofNat K :: UInt8.ofNat (2 + D.length) :: D)) = (61, []) := by
  refine rdF_flat_err (by decide) (fun gs => ?_) L [] hO ht
  have b0 : bt (UInt8.ofNat K :: UInt8.ofNat (2 + D.length) :: D) 0 = K := ofNat_nat h.k
  have b1 : bt (UInt8.ofNat K :: UInt8.ofNat (2 + D.length) :: D) 1 = 2 + D.length := ofNat_nat hl
  have hd : ((UInt8.ofNat K :: UInt8.ofNat (2 + D.length) :: D).take (2 + D.length)).drop 2 = D := by
    rw [show 2 + D.length = D.length + 1 + 1 by omega]; simp
  have hk : (firK (UInt8.ofNat K :: UInt8.ofNat (2 + D.length) :: D)).2.2 = 61 := by
    unfold firK
    rw [b0, b1, hd, if_neg (by omega), if_neg (by simp), if_neg (by omega), if_neg (by simp; omega), if_neg (by rw [h.bad]; simp)]
  rw [rdF_bad (by rw [b0]; simp; omega) (by rw [hk]; decide), hk]
theorem flt_snoc {os : List Opt} {o : Opt} (h : rightO o.k o.d = false) : fltN (os ++ [o]) = 2 := by
  unfold fltN
  rw [if_pos (by rw [List.any_append]; simp [badO, h])]
/-- make([]byte, m), whatever the kind of m. -/
theorem makez (k : IntKind) (m : Nat) (hm : m ≤ 1000) (w : World) : ∃ w', Sem.run Try.prog (Instr.makeSlice 27 (Value.int k m) (Value.int k m)) w = .ok (.slice (some ⟨w.heap.size, 0, none⟩) m m) w' ∧
    w'.ownsRow w.heap.size 5 1 (.slice (some ⟨w.heap.size, 0, none⟩) m m) m (B8 (List.replicate m 0)) ∧ Fr [] w w' := by
  obtain ⟨i0, hi, hz0, hz1, hz2⟩ := info_parts info8
  obtain ⟨w', hm', ho, hg⟩ := run_make_full (P := Try.prog) w w.heap.size 27 5 i0 (.int .u8 0) 1 Try.underlying27 hi hz0 hz1 k k m (by rw [hz2]; omega) (by unfold maxLen; omega) (Nat.le_refl _)
  have e : (madeCells (Value.int .u8 0).cells (m * 1)).toList = B8 (List.replicate m 0) := by
    rw [Nat.mul_one]
    show (madeCells #[Value.int .u8 0] m).toList = _
    rw [toList_madeCells_one]
    simp [B8]
  rw [e] at ho
  exact ⟨w', hm', ho, (Fr.refl _ _).grown hg (by simp)⟩
/-- A row of options reads as they do, wherever their bytes are. -/
theorem rdO_own {w : World} {B c : Nat} {A : Option Addr} {l : List Opt} (h : ∀ o ∈ l, OptOk w o) (ho : w.ownsRow B 35 2 (.slice A l.length c) l.length (CO l)) : RdO w A l := fun i o hi => by
  have hm : o ∈ l := List.mem_of_getElem? hi
  obtain ⟨c1, c2⟩ := CO_get hi
  have hlt := (List.getElem?_eq_some_iff.1 hi).1
  rcases ho.2 with ⟨hv, _⟩ | ⟨g, cap, cur, hv, _⟩
  · exfalso
    injection hv with _ h0
    omega
  · injection hv with hA _ _
    subst hA
    have q1 := ho.cells (g := g) rfl (i * 2) _ c1
    have q2 := ho.cells (g := g) rfl (i * 2 + 1) _ c2
    rw [add_pl, Nat.zero_add] at q1 q2
    exact ⟨g, 0, rfl, by simpa using q1, by simpa [Nat.add_assoc] using q2, h o hm⟩
/-- append to a slice without spare room, of something: a row of our own. -/
theorem afo_run {P : Program} {t e : TypeId} {bytes : Nat} (E : El P t e 1 bytes) (w : World) (ty : TypeId) (A : Option Addr) (n : Nat) (olds : List Value) (hlo : olds.length = n) (ho : Rd w A olds) (hnil : A = none → n = 0)
    (A2 : Option Addr) (m c2 : Nat) (news : List Value) (hl : news.length = m) (hrd : Rd w A2 news) (h1 : ∀ u ∈ news, u.oneCell' = true) (hnil2 : A2 = none → c2 = 0) (hm : 1 ≤ m)
    (h63 : n + m ≤ maxLen) (hbytes : (n + m) * bytes ≤ 140737488355328) :
    ∃ v' w', (Builtin.append_ #[t, t] ty #[.slice A n n, .slice A2 m c2]).run P w = .ok v' w' ∧ w'.ownsRow w.heap.size e 1 v' (n + m) (olds ++ news) ∧ Fr [] w w' := by
  cases A with
  | none =>
    obtain rfl := hnil rfl
    obtain rfl : olds = [] := List.eq_nil_of_length_eq_zero hlo
    obtain ⟨v', w', hr, h2, h3, _⟩ := app_run E w w.heap.size ty (.slice none 0 0) 0 [] (World.ownsRow_nil w _ e 1) A2 m c2 news (by omega) hrd h1 hnil2 h63 hbytes (Nat.le_refl _)
    exact ⟨v', w', hr, h2, by simpa [Value.ownBlock] using fr_grown h3⟩
  | some b =>
    obtain ⟨i, z, hi, hz, hs, hb, hzs⟩ := E.hi
    obtain ⟨u, hu⟩ : ∃ u, news[0]? = some u := ⟨_, List.getElem?_eq_getElem (by omega)⟩
    obtain ⟨a2, rfl, _⟩ := hrd 0 u hu
    obtain ⟨v', w', hr, h2, h3⟩ := run_append_arg_grows (P := P) (w := w) t ty e i z 1 bytes E.ht hi hz hs hb hzs E.hsz b n n olds (by omega) (fun j u hu => ho.get hu) a2 m c2 news (by omega) (fun j u hu => hrd.get hu) (by omega) h63 hbytes
    exact ⟨v', w', hr, h2, (Fr.refl [] w).grown h3 (by simp)⟩
theorem pad4_len (F : List UInt8) : F.length ≤ (pad4 F).length := by unfold pad4; simp
theorem pad4_take (F : List UInt8) : (pad4 F).take F.length = F := by unfold pad4; rw [List.take_append_of_le_length (Nat.le_refl _), List.take_of_length_le (Nat.le_refl _)]
theorem flt_two (A B : Option Addr) : fltN [⟨131, A, 1, 1, [4]⟩, ⟨137, B, 1, 1, [4]⟩] = 63 := rfl
theorem flt_long (A B : Option Addr) {z : Nat} (h : z ≤ 38) : fltN [⟨131, A, 1, 1, [4]⟩, ⟨200, B, z, z, List.replicate z 0⟩] = 0 := by
  have h1 : rightO 131 [4] = true := by decide
  have h2 : rightO 200 (List.replicate z 0) = true := by
    unfold rightO demB
    rw [if_neg (by decide), if_neg (by decide), if_neg (by decide), if_neg (by decide), if_neg (by decide)]; simp; omega
  unfold fltN
  rw [if_neg (by simp [badO, h1, h2]), show twB [] [(⟨131, A, 1, 1, [4]⟩ : Opt), ⟨200, B, z, z, List.replicate z 0⟩] = false from rfl]
  rfl
theorem flat_long (A B : Option Addr) {z : Nat} (h : 36 ≤ z) : 40 < (flatO [⟨131, A, 1, 1, [4]⟩, ⟨200, B, z, z, List.replicate z 0⟩]).length := by
  simp [flatO, optB]; omega
/-- The bits of the wrong pointers. -/
theorem not3 : ∀ n : Fin 256, bits .andNot .u8 (n.val : Int) 3 = ((n.val / 4 * 4 : Nat) : Int) := by decide +kernel
theorem or_1 : ∀ n : Fin 256, n.val % 4 = 0 → bits .or .u8 (n.val : Int) 1 = ((n.val + 1 : Nat) : Int) := by decide +kernel
theorem and_124 : ∀ n : Fin 256, ∃ v : Fin 128, bits .and .u8 (n.val : Int) 124 = (v.val : Int) := by decide +kernel
theorem or_4 : ∀ n : Fin 256, n.val % 16 = 0 → bits .or .u8 (n.val : Int) 4 = ((n.val + 4 : Nat) : Int) := by decide +kernel
theorem not3n {u : Nat} (h : u < 256) : bits .andNot .u8 (u : Int) 3 = ((u / 4 * 4 : Nat) : Int) := not3 ⟨u, h⟩
theorem or_1n {u : Nat} (h : u < 256) (h4 : u % 4 = 0) : bits .or .u8 (u : Int) 1 = ((u + 1 : Nat) : Int) := or_1 ⟨u, h⟩ h4
theorem and_124n {u : Nat} (h : u < 256) : ∃ v : Nat, v < 128 ∧ bits .and .u8 (u : Int) 124 = (v : Int) := by
  obtain ⟨v, hv⟩ := and_124 ⟨u, h⟩
  exact ⟨v.val, v.isLt, hv⟩
theorem or_4n {u : Nat} (h : u < 256) (h4 : u % 16 = 0) : bits .or .u8 (u : Int) 4 = ((u + 4 : Nat) : Int) := or_4 ⟨u, h⟩ h4
end Go.Proofs.Ytekhjpiopbkoaaa
