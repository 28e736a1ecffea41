/- Made: a header and data that it is right for. -/
import Derived.Test.YtjpcfphmejenoaaIpa
import Derived.Test.YtjpcfphmejenoaaOps
import Derived.Deep.AppendLies
import Derived.Deep.DeepCutAuto
namespace Go.Proofs.Ytjpcfphmejenoaa
open Go.RowKit
set_option linter.unusedVariables false
set_option maxRecDepth 100000

theorem BoxH.set9 {w : World} {g n c : Nat} {h : Hd} {A : Option Addr} (hB : BoxH w g h A n c) (A' : Option Addr) (n' c' : Nat) : BoxH (w.setCell ⟨g, 9, none⟩ (.slice A' n' c')) g h A' n' c' := by
  unfold BoxH at hB ⊢
  simp [World.setCell, Array.getElem?_modify, hB]
theorem BoxH.set4 {w : World} {g n c : Nat} {h : Hd} {A : Option Addr} (hB : BoxH w g h A n c) (z : Int) : BoxH (w.setCell ⟨g, 4, none⟩ (.int .i64 z)) g { h with off := z } A n c := by
  unfold BoxH at hB ⊢
  simp [World.setCell, Array.getElem?_modify, hB]
theorem BoxH.fz {w : World} {g n c : Nat} {h : Hd} {A : Option Addr} (hB : BoxH w g h A n c) (k : Nat) : w.frozen? ⟨g, k, none⟩ = false := by unfold BoxH at hB; simp [World.frozen?, hB]
/-- Cells of a whole block. -/
def Blk (w : World) (g : Nat) (cs : Array Value) (t : TypeId) : Prop := w.heap[g]? = some (.cells cs t (0, 0))
theorem Blk.fr {S : List Nat} {w w' : World} {g : Nat} {cs : Array Value} {t : TypeId} (h : Blk w g cs t) (hF : Fr S w w') (hg : g ∉ S) : Blk w' g cs t := hF.blk h hg
theorem Blk.cell {w : World} {g : Nat} {cs : Array Value} {t : TypeId} (h : Blk w g cs t) {k : Nat} {v : Value} (hk : cs[k]? = some v) : w.cell? ⟨g, k, none⟩ = some v := by
  unfold Blk at h
  simp [World.cell?, h, hk]
theorem Blk.fz {w : World} {g : Nat} {cs : Array Value} {t : TypeId} (h : Blk w g cs t) (k : Nat) : w.frozen? ⟨g, k, none⟩ = false := by unfold Blk at h; simp [World.frozen?, h]

theorem blk_new (w : World) (cs : Array Value) (t : TypeId) {g : Nat} (hg : g = w.heap.size) : Blk (w.alloc (.cells cs t)) g cs t := by
  subst hg
  unfold Blk World.alloc
  exact Array.getElem?_push_size
theorem Blk.al {w : World} {g : Nat} {cs : Array Value} {t : TypeId} (h : Blk w g cs t) (o : Obj) : Blk (w.alloc o) g cs t := h.fr ((Fr.refl [] w).alloc o) (by simp)
theorem get12 {b0 b1 b2 b3 b4 b5 b6 b7 b8 b9 b10 b11 r : Nat} (h : r < 12) (q : b0 < 256 ∧ b1 < 256 ∧ b2 < 256 ∧ b3 < 256 ∧ b4 < 256 ∧ b5 < 256 ∧ b6 < 256 ∧ b7 < 256 ∧ b8 < 256 ∧ b9 < 256 ∧ b10 < 256 ∧ b11 < 256) :
    ∃ v : Nat, v < 256 ∧ (#[Value.int .u8 b0, .int .u8 b1, .int .u8 b2, .int .u8 b3, .int .u8 b4, .int .u8 b5, .int .u8 b6, .int .u8 b7, .int .u8 b8, .int .u8 b9, .int .u8 b10, .int .u8 b11] : Array Value)[r]? = some (.int .u8 v) := by
  obtain ⟨q0, q1, q2, q3, q4, q5, q6, q7, q8, q9, q10, q11⟩ := q
  match r, h with
  | 0, _ => exact ⟨_, q0, rfl⟩
  | 1, _ => exact ⟨_, q1, rfl⟩
  | 2, _ => exact ⟨_, q2, rfl⟩
  | 3, _ => exact ⟨_, q3, rfl⟩
  | 4, _ => exact ⟨_, q4, rfl⟩
  | 5, _ => exact ⟨_, q5, rfl⟩
  | 6, _ => exact ⟨_, q6, rfl⟩
  | 7, _ => exact ⟨_, q7, rfl⟩
  | 8, _ => exact ⟨_, q8, rfl⟩
  | 9, _ => exact ⟨_, q9, rfl⟩
  | 10, _ => exact ⟨_, q10, rfl⟩
  | 11, _ => exact ⟨_, q11, rfl⟩
theorem bits_nat (op : BinOp) {k : IntKind} (hk : k.min = 0) (x y : Int) : ∃ n : Nat, bits op k x y = (n : Int) ∧ (n : Int) ≤ k.max := by
  have h := wf_bits op k x y
  simp only [Lit.wf, hk, Bool.and_eq_true, decide_eq_true_eq] at h
  exact ⟨(bits op k x y).toNat, by omega, by omega⟩
theorem wrap_nat {k : IntKind} (hk : k.min = 0) (x : Int) : ∃ n : Nat, k.wrap x = (n : Int) ∧ (n : Int) ≤ k.max := by
  have h := wf_wrap k x
  simp only [Lit.wf, hk, Bool.and_eq_true, decide_eq_true_eq] at h
  exact ⟨(k.wrap x).toNat, by omega, by omega⟩

/-- The first loop's world: the boxes of the argument, of the result, of the numbers and of the header, and the options' row. -/
structure MI (w wr : World) (X : Array Value) (bc : Array Value) (h : Hd) (A : Option Addr) (k c : Nat) (o : List UInt8) : Prop where
  bh : BoxH wr (w.heap.size + 1 + 1 + 1) h A k c
  bx : Blk wr w.heap.size X 25
  bz : Blk wr (w.heap.size + 1) #[.int .u8 0, .int .u16 0, .bool false, .bool false, .int .i64 0, .int .u8 0, .int .u8 0, .int .u32 0, .int .u32 0, .slice none 0 0] 30
  bb : Blk wr (w.heap.size + 1 + 1) bc 22
  own : wr.ownsRow (w.heap.size + 4) 5 1 (.slice A k c) k (B8 o)
  fr : Fr [] w wr
  sz : w.heap.size + 4 ≤ wr.heap.size

theorem made_push {w wr : World} {X bc : Array Value} {h : Hd} {A : Option Addr} {k c : Nat} {o : List UInt8} (hI : MI w wr X bc h A k c o) (v : UInt8) (hk : k ≤ 40) :
    ∃ A' c' w3, (Builtin.append_ #[23, 23] 23 #[.slice A k c, .slice (some ⟨wr.heap.size, 0, none⟩) 1 1]).run Try.prog (wr.alloc (.cells #[.int .u8 v.toNat] 5)).drew = .ok (.slice A' (k + 1) c') w3 ∧
      w3.cell? ⟨w.heap.size + 1 + 1 + 1, 9, none⟩ = some (.slice A k c) ∧ w3.frozen? ⟨w.heap.size + 1 + 1 + 1, 9, none⟩ = false ∧ MI w (w3.setCell ⟨w.heap.size + 1 + 1 + 1, 9, none⟩ (.slice A' (k + 1) c')) X bc h A' (k + 1) c' (o ++ [v]) := by
  have hF1 : Fr [] wr (wr.alloc (.cells #[.int .u8 v.toNat] 5)).drew := ((Fr.refl [] wr).alloc _).drew
  obtain ⟨v', w3, hr, ho2, hg, _⟩ := app_run el8 (wr.alloc (.cells #[.int .u8 v.toNat] 5)).drew (w.heap.size + 4) 23 (.slice A k c) k (B8 o) (own_alk (hI.own.alloc _) rfl)
    (some ⟨wr.heap.size, 0, none⟩) 1 1 (B8 [v]) rfl ((rd_new wr [v] 5).alk rfl) (B8_one _) (by simp) (by simp only [maxLen]; omega) (by omega) (by have := hI.sz; simp [World.drew]; omega)
  obtain ⟨A', c', rfl, _, _, _⟩ := own_slice ho2
  have hown : ∀ j ∈ (Value.slice A k c).ownBlock.toList, w.heap.size + 4 ≤ j := fun j hj => (hI.own.lt j (by simpa using hj)).1
  have hF2 := fr_grown hg
  have hn : ∀ g, g < w.heap.size + 4 → g ∉ (Value.slice A k c).ownBlock.toList := fun g hg hh => by have := hown g hh; omega
  have hb := (hI.bh.fr hF1 (by simp)).fr hF2 (hn _ (by omega))
  have hF3 : Fr [w.heap.size + 1 + 1 + 1] w3 (w3.setCell ⟨w.heap.size + 1 + 1 + 1, 9, none⟩ (.slice A' (k + 1) c')) := (Fr.refl _ _).setCell (.inl (by simp)) _
  refine ⟨A', c', w3, hr, hb.c9, hb.fz 9, hb.set9 _ _ _, ?_, ?_, ?_, ?_, ?_, ?_⟩
  · exact ((hI.bx.fr hF1 (by simp)).fr hF2 (hn _ (by omega))).fr hF3 (by simp; omega)
  · exact ((hI.bz.fr hF1 (by simp)).fr hF2 (hn _ (by omega))).fr hF3 (by simp)
  · exact ((hI.bb.fr hF1 (by simp)).fr hF2 (hn _ (by omega))).fr hF3 (by simp)
  · rw [B8_append]
    exact ownsRow_setCell_below ho2 (by show w.heap.size + 1 + 1 + 1 < _; omega) _
  · exact ((hI.fr.trans hF1).trans2 hF2 (fun t ht => .inr (by have := hown t ht; omega))).setCell (.inr (by show w.heap.size ≤ w.heap.size + 1 + 1 + 1; omega)) _
  · have h1 := hI.sz
    have h2 := hF1.size
    have h3 := hF2.size
    have h4 := hF3.size
    omega

def MadeP (w : World) (e : Ending) (w' : World) : Prop :=
  ∃ (h : Hd) (A : Option Addr) (n c : Nat) (d : List UInt8) (A2 : Option Addr) (m c2 : Nat), e = .returned (.tuple #[HV h A n c, .slice A2 m c2]) ∧ Fits h m ∧ d.length = m ∧ m ≤ 80 ∧ h.o.length = n ∧ Rd w' A (B8 h.o) ∧ (A = none → c = 0) ∧ n ≤ c ∧ Rd w' A2 (B8 d) ∧ (A2 = none → c2 = 0) ∧ m ≤ c2 ∧ c2 ≤ maxLen ∧ Fr [] w w'
/-- Behind the first loop: what is left alone by what makes blocks from B on. -/
structure MJ (w wr : World) (X : Array Value) (h : Hd) (A : Option Addr) (k c : Nat) (o : List UInt8) (B : Nat) : Prop where
  bh : BoxH wr (w.heap.size + 1 + 1 + 1) h A k c
  bx : Blk wr w.heap.size X 25
  bz : Blk wr (w.heap.size + 1) #[.int .u8 0, .int .u16 0, .bool false, .bool false, .int .i64 0, .int .u8 0, .int .u8 0, .int .u32 0, .int .u32 0, .slice none 0 0] 30
  rd : Rd wr A (B8 o)
  lt : ∀ ad, A = some ad → ad.block < B ∧ w.heap.size + 4 ≤ ad.block
  fr : Fr [] w wr
  sz : w.heap.size + 4 ≤ B
  le : B ≤ wr.heap.size
theorem MI.mj {w wr : World} {X bc : Array Value} {h : Hd} {A : Option Addr} {k c : Nat} {o : List UInt8} (hI : MI w wr X bc h A k c o) : MJ w wr X h A k c o wr.heap.size := by
  refine ⟨hI.bh, hI.bx, hI.bz, Rd.own hI.own, ?_, hI.fr, hI.sz, Nat.le_refl _⟩
  intro ad hA
  obtain ⟨A', c', hv, _, _, h3⟩ := own_slice hI.own
  injection hv with h1 h2 h4
  subst h1
  have := hI.own.lt ad.block (h3 ad hA)
  exact ⟨this.2, this.1⟩
theorem MJ.on {w wr w2 : World} {X : Array Value} {h : Hd} {A : Option Addr} {k c : Nat} {o : List UInt8} {B : Nat} {S : List Nat} (hJ : MJ w wr X h A k c o B) (hF : Fr S wr w2) (hS : ∀ s ∈ S, B ≤ s) : MJ w w2 X h A k c o B := by
  have hz := hJ.sz
  refine ⟨hJ.bh.fr hF ?_, hJ.bx.fr hF ?_, hJ.bz.fr hF ?_, hJ.rd.fr hF ?_, hJ.lt, hJ.fr.trans2 hF (fun t ht => .inr ?_), hz, Nat.le_trans hJ.le hF.size⟩
  · intro hh; have := hS _ hh; omega
  · intro hh; have := hS _ hh; omega
  · intro hh; have := hS _ hh; omega
  · intro ad hA hh; have := hS _ hh; have := hJ.lt ad hA; omega
  · have := hS t ht; omega

theorem MJ.set4 {w wr : World} {X : Array Value} {h : Hd} {A : Option Addr} {k c : Nat} {o : List UInt8} {B : Nat} (hJ : MJ w wr X h A k c o B) (z : Int) : MJ w (wr.setCell ⟨w.heap.size + 1 + 1 + 1, 4, none⟩ (.int .i64 z)) X { h with off := z } A k c o B := by
  have hF : Fr [w.heap.size + 1 + 1 + 1] wr (wr.setCell ⟨w.heap.size + 1 + 1 + 1, 4, none⟩ (.int .i64 z)) := (Fr.refl _ _).setCell (.inl (by simp)) _
  refine ⟨hJ.bh.set4 z, hJ.bx.fr hF (by simp; omega), hJ.bz.fr hF (by simp), hJ.rd.fr hF ?_, hJ.lt, hJ.fr.setCell (.inr (by show w.heap.size ≤ w.heap.size + 1 + 1 + 1; omega)) _, hJ.sz, Nat.le_trans hJ.le hF.size⟩
  intro ad hA hh
  have := hJ.lt ad hA
  simp at hh
  omega
/-- What the walk's end must give. -/
theorem made_end {w w5 w6 : World} {X : Array Value} {h : Hd} {A : Option Addr} {k c : Nat} {o : List UInt8} {B : Nat} (hJ : MJ w w5 X h A k c o B) {A2 : Option Addr} {m c2 : Nat} {d : List UInt8} (ho : w5.ownsRow B 5 1 (.slice A2 m c2) m (B8 d)) (hF : Fr [w.heap.size + 1] w5 w6) (hlo : o.length = k) (hd : d.length = m) (hm : m ≤ 80) (hkc : k ≤ c) (hnil : A = none → c = 0) (f : Fits { h with o := o } m) :
    MadeP w (.returned (.tuple #[HV { h with o := o } A k c, .slice A2 m c2])) w6 := by
  have hz := hJ.sz
  obtain ⟨_, _, hv, hmc, hm2, _⟩ := own_slice ho
  injection hv with e1 e2 e3
  subst e1 e3
  have hA2 : A2 = none → c2 = 0 := by
    intro hA
    subst hA
    rcases ho.2 with ⟨hv, _⟩ | ⟨g, cap, cur, hv, _⟩
    · injection hv
    · injection hv with hv; cases hv
  have ho6 := hF.own ho (fun j hj hh => by have := (ho.lt j hj).1; simp at hh; omega)
  refine ⟨{ h with o := o }, A, k, c, d, A2, m, c2, rfl, f, hd, hm, hlo, hJ.rd.fr hF ?_, hnil, hkc, Rd.own ho6, hA2, hmc, hm2, hJ.fr.trans2 hF ?_⟩
  · intro ad hA hh
    have := hJ.lt ad hA
    simp at hh
    omega
  · intro t ht
    simp at ht
    subst ht
    exact .inr (by omega)

theorem fits_made (b0 ID b3 b4 SRC DST m : Nat) (df mf : Bool) (z : Int) (o : List UInt8) (q0 : b0 < 256) (q3 : b3 < 256) (q4 : b4 < 256) (hn : (ID : Int) ≤ IntKind.u16.max ∧ (SRC : Int) ≤ IntKind.u32.max ∧ (DST : Int) ≤ IntKind.u32.max) (ho : o.length ≤ 40 ∧ o.length % 4 = 0) (hm : m ≤ 80) (hz : 0 ≤ z ∧ z % 8 = 0 ∧ (m : Int) + z ≤ 65515) (hmf : mf = true → 0 < m ∧ m % 8 = 0) :
    Fits ⟨b0, ID, df, mf, z, b3, b4, SRC, DST, o⟩ m := by
  obtain ⟨n1, n2, n3⟩ := hn
  have e1 : IntKind.u16.max = 65535 := by decide
  have e2 : IntKind.u32.max = 4294967295 := by decide
  rw [e1] at n1
  rw [e2] at n2 n3
  exact ⟨⟨q0, by show ID < _; omega, by show -9223372036854775808 ≤ z ∧ z ≤ _; omega, q3, q4, by show SRC < _; omega, by show DST < _; omega⟩, ho, by show 0 ≤ z ∧ z % 8 = 0; omega, by show (m : Int) ≤ 65515 - (o.length : Int) ∧ (m : Int) ≤ 65515 - z; omega, hmf⟩

/-- An append of a slice that is read, to the data. -/
theorem made_app {w wr : World} {X : Array Value} {h : Hd} {A : Option Addr} {k c : Nat} {o : List UInt8} {B : Nat} (hJ : MJ w wr X h A k c o B) {A2 : Option Addr} {m c2 : Nat} {d : List UInt8} (ho : wr.ownsRow B 5 1 (.slice A2 m c2) m (B8 d)) (A3 : Option Addr) (j c3 : Nat) (ys : List UInt8) (hl : ys.length = j) (hrd : Rd wr A3 (B8 ys)) (hnil : A3 = none → c3 = 0) (hm : m + j ≤ 1000) :
    ∃ A' c' w3, (Builtin.append_ #[23, 23] 23 #[.slice A2 m c2, .slice A3 j c3]).run Try.prog wr = .ok (.slice A' (m + j) c') w3 ∧ MJ w w3 X h A k c o B ∧ w3.ownsRow B 5 1 (.slice A' (m + j) c') (m + j) (B8 (d ++ ys)) := by
  obtain ⟨v', w3, hr, ho2, hg, _⟩ := app_run el8 wr B 23 (.slice A2 m c2) m (B8 d) ho A3 j c3 (B8 ys) (by rw [B8_length, hl]; omega) hrd (B8_one _) hnil (by simp only [maxLen]; omega) (by omega) hJ.le
  obtain ⟨A', c', rfl, _, _, _⟩ := own_slice ho2
  refine ⟨A', c', w3, hr, hJ.on (fr_grown hg) (fun s hs => (ho.lt s (by simpa using hs)).1), ?_⟩
  rw [B8_append]
  exact ho2
def padN : Value → Nat
  | .slice _ m _ => if m = 0 then 8 else (8 - m % 8) % 8
  | _ => 0
theorem padN_lt (A A' : Option Addr) (c c' m : Nat) (h : m = 0 ∨ 0 < m % 8) : padN (.slice A' (m + 1) c') < padN (.slice A m c) := by
  simp only [padN]
  split <;> split <;> omega

set_option maxHeartbeats 8000000 in
theorem made5 (b : List Nat) (wo fa ma : Nat) (df mf : Bool) (A : Option Addr) (n c : Nat) (xs : List UInt8) (w : World) (hb : ∀ k, b.getD k 0 < 256) (hwo : wo < 256) (hfa : fa < 256) (hma : ma < 256) (hl : xs.length = n) (hrd : Rd w A (B8 xs)) (hnil : A = none → c = 0) (hnc : n ≤ c) (hcm : c ≤ 9223372036854775807) :
    Calls Try.prog 10 #[SV b wo fa ma df mf A n c] w (MadeP w) := by
  obtain ⟨mu, rfl⟩ : ∃ mu : UInt8, ma = mu.toNat := ⟨UInt8.ofNat ma, by simp; omega⟩
  have q0 := hb 0
  have q1 := hb 1
  have q2 := hb 2
  have q3 := hb 3
  have q4 := hb 4
  have q5 := hb 5
  have q6 := hb 6
  have q7 := hb 7
  have q8 := hb 8
  have q9 := hb 9
  have q10 := hb 10
  have q11 := hb 11
  unfold SV
  clear hb
  generalize b.getD 0 0 = b0 at q0 ⊢
  generalize b.getD 1 0 = b1 at q1 ⊢
  generalize b.getD 2 0 = b2 at q2 ⊢
  generalize b.getD 3 0 = b3 at q3 ⊢
  generalize b.getD 4 0 = b4 at q4 ⊢
  generalize b.getD 5 0 = b5 at q5 ⊢
  generalize b.getD 6 0 = b6 at q6 ⊢
  generalize b.getD 7 0 = b7 at q7 ⊢
  generalize b.getD 8 0 = b8 at q8 ⊢
  generalize b.getD 9 0 = b9 at q9 ⊢
  generalize b.getD 10 0 = b10 at q10 ⊢
  generalize b.getD 11 0 = b11 at q11 ⊢
  have Q := Lib.hid (And.intro q0 (And.intro q1 (And.intro q2 (And.intro q3 (And.intro q4 (And.intro q5 (And.intro q6 (And.intro q7 (And.intro q8 (And.intro q9 (And.intro q10 q11)))))))))))
  obtain ⟨K, hK⟩ : ∃ K, K = 4 * (wo % 11) := ⟨_, rfl⟩
  have k1 : (wo : Int).tmod 11 = ((wo % 11 : Nat) : Int) := by rw [Int.tmod_eq_emod_of_nonneg (by omega)]; omega
  have k2 : (4 : Int) * ((wo % 11 : Nat) : Int) = (K : Int) := by omega
  have hK40 : K ≤ 40 ∧ K % 4 = 0 := by omega
  clear hK
  go_enter Try.func10, Try.ntmps10
  go_wp2
  obtain ⟨ID, hID, hIDb⟩ := bits_nat .or (k := .u16) rfl ((b1 : Int) * 256) (b2 : Int)
  obtain ⟨S1, hS1, hS1b⟩ := bits_nat .or (k := .u32) rfl ((b5 : Int) * 16777216) ((b6 : Int) * 256)
  obtain ⟨SRC, hSR, hSRb⟩ := bits_nat .or (k := .u32) rfl (S1 : Int) (b7 : Int)
  obtain ⟨D1, hD1, hD1b⟩ := bits_nat .or (k := .u32) rfl ((b8 : Int) * 16777216) ((b9 : Int) * 256)
  obtain ⟨DST, hDS, hDSb⟩ := bits_nat .or (k := .u32) rfl (D1 : Int) (b10 : Int)
  rw [hID, hS1, hSR, hD1, hDS]
  have HN := Lib.hid (And.intro hIDb (And.intro hSRb hDSb))
  clear hID hS1 hSR hD1 hDS hIDb hSRb hDSb hS1b hD1b
  clear q0 q1 q2 q3 q4 q5 q6 q7 q8 q9 q10 q11
  obtain ⟨h0, hh0⟩ : ∃ h0 : Hd, h0 = ⟨b0, ID, df, mf, 0, b3, b4, SRC, DST, []⟩ := ⟨_, rfl⟩
  obtain ⟨X, hX⟩ : ∃ X : Array Value, X = #[.int .u8 b0, .int .u8 b1, .int .u8 b2, .int .u8 b3, .int .u8 b4, .int .u8 b5, .int .u8 b6, .int .u8 b7, .int .u8 b8, .int .u8 b9, .int .u8 b10, .int .u8 b11, .int .u8 wo, .int .u8 fa, .int .u8 mu.toNat, .bool df, .bool mf, .slice A n c] := ⟨_, rfl⟩
  go_loopw [60] (fun i wr => ∃ (k : Nat) (o : List UInt8) (Ao : Option Addr) (co : Nat), k ≤ K ∧ i = .int .i64 k ∧ o.length = k ∧ MI w wr X #[.int .u8 b0, .int .u8 b1, .int .u8 b2, .int .u8 b3, .int .u8 b4, .int .u8 b5, .int .u8 b6, .int .u8 b7, .int .u8 b8, .int .u8 b9, .int .u8 b10, .int .u8 b11] h0 Ao k co o) (fun i _ => K - (intOf i).toNat)
  case atStart =>
    refine ⟨0, [], none, 0, Nat.zero_le _, rfl, rfl, ?_, ?_, ?_, ?_, World.ownsRow_nil _ _ _ _, ((((Fr.refl _ _).alloc _).alloc _).alloc _).alloc _, by simp⟩
    · subst hh0; exact blk_new _ _ _ (by simp)
    · subst hX; exact (((blk_new _ _ _ rfl).al _).al _).al _
    · exact ((blk_new _ _ _ (by simp)).al _).al _
    · exact (blk_new _ _ _ (by simp)).al _
  case round =>
    obtain ⟨k, o, Ao, co, hk, rfl, hlo, hI⟩ := hrel
    by_cases hlt : k < K
    · obtain ⟨r, hr⟩ : ∃ r, r = k % 12 := ⟨_, rfl⟩
      have hr12 : r < 12 := by omega
      have r1 : (k : Int).tmod 12 = (r : Int) := by rw [Int.tmod_eq_emod_of_nonneg (by omega)]; omega
      obtain ⟨v, hv, hget⟩ := get12 hr12 Q.out
      have cv := hI.bb.cell hget
      have w1 : IntKind.u8.wrap (k : Int) = k := by rw [IntKind.wrap_u8]; omega
      obtain ⟨t, ht⟩ : ∃ t : UInt8, t = UInt8.ofNat ((v + k) % 256) := ⟨_, rfl⟩
      have w2 : IntKind.u8.wrap ((v : Int) + k) = (t.toNat : Int) := by rw [IntKind.wrap_u8, ht]; simp
      obtain ⟨A', c', w3, hrun, hc3, hf3, hI3⟩ := made_push hI t (by omega)
      have c9 := hI.bh.c9
      have HI3 := Lib.hid hI3
      have HLO := Lib.hid hlo
      have c9' := old_cell c9 (.cells #[.int .u8 t.toNat] 5)
      have ri : (0 : Int) ≤ (r : Int) ∧ (r : Int) < 12 := by omega
      clear hI hI3 hlo ht hr hget hv
      go_wp2_with fail
      go_region_law (first | (refine step_app rfl _ _ _ rfl hrun rfl rfl ?_))
      all_goals go_wp2
      all_goals
        go_roundw
        case rel => exact ⟨k + 1, o ++ [t], A', c', by omega, by go_num, by rw [List.length_append, HLO.out]; rfl, HI3.out⟩
        case measure => simp [intOf]; omega
    · obtain rfl : k = K := by omega
      obtain ⟨_, _, hv, hkc, hcm2, _⟩ := own_slice hI.own
      injection hv with e1 e2 e3
      subst e1 e3
      have hnil2 : Ao = none → co = 0 := by
        intro hA
        subst hA
        rcases hI.own.2 with ⟨hv, _⟩ | ⟨g, cap, cur, hv, _⟩
        · injection hv
        · injection hv with hv; cases hv
      have HNL := Lib.hid hnil2
      have hJ := hI.mj
      have hJ1 := hJ.on ((Fr.refl [] wr).alloc (.cells #[] 5)) (by simp)
      obtain ⟨m0, hm0⟩ : ∃ m0, m0 = min n 80 := ⟨_, rfl⟩
      obtain ⟨A2, c2, w3, hrun, hJ3, ho3⟩ := made_app (m := 0) (d := []) hJ1 (World.ownsRow_lit wr #[] 0 (Nat.le_refl _) (Nat.zero_le _) rfl) A m0 c (xs.take m0) (by rw [List.length_take]; omega) (by rw [← B8_take]; exact (hrd.fr (hI.fr.alloc _) (by simp)).take _) hnil (by omega)
      have c17 : (wr.alloc (.cells #[] 5)).cell? ⟨w.heap.size, 17, none⟩ = some (.slice A n c) := hJ1.bx.cell (by rw [hX]; rfl)
      have hm1 : m0 ≤ n := by omega
      have hmi := min_is (n := n) (m := m0) (M := 80) (k := 80) rfl (by omega)
      have hmc : m0 ≤ c := by omega
      have HM0 := Lib.hid (show m0 ≤ 80 by omega)
      have hlx : (xs.take m0).length = m0 := by rw [List.length_take]; omega
      rw [List.nil_append, Nat.zero_add] at ho3
      rw [Nat.zero_add] at hrun
      have HO3 := Lib.hid ho3
      have HJ3 := Lib.hid hJ3
      have HLX := Lib.hid hlx
      have HLO := Lib.hid hlo
      have HCM2 := Lib.hid hcm2
      have HHC := Lib.hid hh0
      have HXC := Lib.hid hX
      have HRD := Lib.hid hrd
      clear hI hJ hJ1 hJ3 ho3 hm0 hlx hlo hcm2 hh0 hX hrd hnil hnil2
      go_upto_region 9 with (at_builtin; refine wpList_app rfl _ _ _ rfl hrun rfl rfl ?_)
      clear hmi hmc c17 hrun
      generalize xs.take m0 = d at HO3 HLX
      have c16 : w3.cell? ⟨w.heap.size, 16, none⟩ = some (.bool mf) := HJ3.out.bx.cell (by rw [HXC.out]; rfl)
      generalize wr.heap.size = B at HO3 HJ3
      have hm80 : m0 ≤ 80 := HM0.out
      have c16 : w3.cell? ⟨w.heap.size, 16, none⟩ = some (.bool mf) := HJ3.out.bx.cell (by rw [HXC.out]; rfl)
      cases mf with
      | true =>
        have hpad : ∀ ws : World, ws = w3 → True := fun _ _ => trivial
        clear hpad
        go_wp2_with fail
        go_loopw [7] (fun v ws => ∃ (m : Nat) (d' : List UInt8) (A3 : Option Addr) (c3 : Nat), v = .slice A3 m c3 ∧ m ≤ 80 ∧ d'.length = m ∧ MJ w ws X h0 Ao k co o B ∧ ws.ownsRow B 5 1 (.slice A3 m c3) m (B8 d')) (fun v _ => padN v)
        case atStart => exact ⟨m0, d, A2, c2, rfl, HM0.out, HLX.out, HJ3.out, HO3.out⟩
        case round =>
          obtain ⟨m, d', A3, c3, rfl, hm80', hd', hJ', ho'⟩ := hrel
          clear hm80 c16 HJ3 HO3 HLX
          have hm81 : m ≤ 80 := hm80'
          clear hm80'
          have c14 : wr.cell? ⟨w.heap.size, 14, none⟩ = some (.int .u8 mu.toNat) := hJ'.bx.cell (by rw [HXC.out]; rfl)
          have c13 : wr.cell? ⟨w.heap.size, 13, none⟩ = some (.int .u8 fa) := hJ'.bx.cell (by rw [HXC.out]; rfl)
          have hr8 : (m : Int).tmod 8 = ((m % 8 : Nat) : Int) := by rw [Int.tmod_eq_emod_of_nonneg (by omega)]; omega
          by_cases hgo : m = 0 ∨ 0 < m % 8
          · obtain ⟨A4, c4, w4, hrun, hJ4, ho4⟩ := made_app (hJ'.on ((Fr.refl [] wr).alloc (.cells #[.int .u8 mu.toNat] 5)) (by simp)) (ho'.alloc _) (some ⟨wr.heap.size, 0, none⟩) 1 1 [mu] rfl (rd_new wr [mu] 5) (by simp) (by omega)
            have HJ4 := Lib.hid hJ4
            have HO4 := Lib.hid ho4
            have HD4 := Lib.hid hd'
            clear hJ4 ho4 hJ' ho' hd'
            obtain ⟨r, hr⟩ : ∃ r, r = m % 8 := ⟨_, rfl⟩
            rw [← hr] at hr8
            have hr7 : r < 8 := by omega
            have h80 : m + 1 ≤ 80 := by omega
            rcases hgo with hgo | hgo
            · subst hgo
              have e0 : (((0 : Nat) : Int) == 0) = true := rfl
              go_wp2_with (at_builtin; refine wpList_app rfl _ _ _ rfl hrun rfl rfl ?_)
              go_roundw
              case rel => exact ⟨1, d' ++ [mu], A4, c4, rfl, by omega, by rw [List.length_append, HD4.out]; rfl, HJ4.out, HO4.out⟩
              case measure => exact padN_lt _ _ _ _ 0 (.inl rfl)
            · have e0 : ((m : Int) == 0) = false := by rw [beq_eq_false_iff_ne]; omega
              have e0' : (m : Int) ≠ 0 := by omega
              have e1 : decide ((0 : Int) < (r : Int)) = true := decide_eq_true (by omega)
              go_wp2_with (at_builtin; refine wpList_app rfl _ _ _ rfl hrun rfl rfl ?_)
              go_roundw
              case rel => exact ⟨m + 1, d' ++ [mu], A4, c4, rfl, h80, by rw [List.length_append, HD4.out]; rfl, HJ4.out, HO4.out⟩
              case measure => exact padN_lt _ _ _ _ m (.inr (by omega))
          · have e0 : ((m : Int) == 0) = false := by rw [beq_eq_false_iff_ne]; omega
            have e0' : (m : Int) ≠ 0 := by omega
            have e1 : ((m % 8 : Nat) : Int) = 0 := by omega
            rw [e1] at hr8
            have HMF : Hid (0 < m ∧ m % 8 = 0) := by show _ ∧ _; omega
            obtain ⟨_, _, hv', hmc3, hcm3, _⟩ := own_slice ho'
            injection hv' with v1 v2 v3
            subst v1 v3
            have hmi := min_is (n := m) (m := m) (M := 80) (k := 80) rfl (by omega)
            have HJ5 := Lib.hid hJ'
            have HO5 := Lib.hid ho'
            have HD3 := Lib.hid hd'
            have c4 := hJ'.bh.c4
            have f4 := hJ'.bh.fz 4
            clear hJ' ho' hd' hcm3 e1 hgo
            by_cases hf : 200 < fa
            · go_upto_region 16 with (fail)
              have J5 := HJ5.out.set4 (8 * (fa : Int))
              have O5 := ownsRow_setCell_below HO5.out (a := ⟨w.heap.size + 1 + 1 + 1, 4, none⟩) (by have := HJ5.out.sz; show w.heap.size + 1 + 1 + 1 < _; omega) (.int .i64 (8 * (fa : Int)))
              replace O5 := ownsRow_setCell_below O5 (a := ⟨w.heap.size + 1 + 1 + 1, 4, none⟩) (by have := HJ5.out.sz; show w.heap.size + 1 + 1 + 1 < _; omega) (.int .i64 ((65515 - (m : Int)) / 8 * 8))
              replace J5 := J5.set4 ((65515 - (m : Int)) / 8 * 8)
              have hlo := HLO.out
              have FT : Fits { h0 with off := (65515 - (m : Int)) / 8 * 8, o := o } m := by
                rw [HHC.out]
                exact fits_made b0 ID b3 b4 SRC DST m df true ((65515 - (m : Int)) / 8 * 8) o Q.out.1 Q.out.2.2.2.1 Q.out.2.2.2.2.1 HN.out (by omega) hm81 (by omega) (fun h => HMF.out)
              obtain ⟨w5, h5⟩ : ∃ w5, w5 = ((wr.setCell ⟨w.heap.size + 1 + 1 + 1, 4, none⟩ (.int .i64 (8 * (fa : Int)))).setCell ⟨w.heap.size + 1 + 1 + 1, 4, none⟩ (.int .i64 ((65515 - (m : Int)) / 8 * 8))) := ⟨_, rfl⟩
              rw [← h5] at J5 O5 ⊢
              have EE := Lib.hid (show ∀ w6, Fr [w.heap.size + 1] w5 w6 → MadeP w (.returned (.tuple #[HV { h0 with off := (65515 - (m : Int)) / 8 * 8, o := o } Ao k co, .slice A3 m c3])) w6 from fun w6 hF => made_end (h := { h0 with off := (65515 - (m : Int)) / 8 * 8 }) (o := o) J5 O5 hF HLO.out HD3.out hm81 hkc HNL.out FT)
              clear h5 O5 FT hlo
              have h0_ := J5.bh.c0
              have h1_ := J5.bh.c1
              have h2_ := J5.bh.c2
              have h3_ := J5.bh.c3
              have h4_ := J5.bh.c4
              have h5_ := J5.bh.c5
              have h6_ := J5.bh.c6
              have h7_ := J5.bh.c7
              have h8_ := J5.bh.c8
              have h9_ := J5.bh.c9
              have z0 := J5.bz.cell (k := 0) rfl
              have y0 := J5.bz.fz 0
              have z1 := J5.bz.cell (k := 1) rfl
              have y1 := J5.bz.fz 1
              have z2 := J5.bz.cell (k := 2) rfl
              have y2 := J5.bz.fz 2
              have z3 := J5.bz.cell (k := 3) rfl
              have y3 := J5.bz.fz 3
              have z4 := J5.bz.cell (k := 4) rfl
              have y4 := J5.bz.fz 4
              have z5 := J5.bz.cell (k := 5) rfl
              have y5 := J5.bz.fz 5
              have z6 := J5.bz.cell (k := 6) rfl
              have y6 := J5.bz.fz 6
              have z7 := J5.bz.cell (k := 7) rfl
              have y7 := J5.bz.fz 7
              have z8 := J5.bz.cell (k := 8) rfl
              have y8 := J5.bz.fz 8
              have z9 := J5.bz.cell (k := 9) rfl
              have y9 := J5.bz.fz 9
              clear J5
              go_wp2_with fail
              refine bodyPost_ret (v := .tuple #[HV { h0 with off := (65515 - (m : Int)) / 8 * 8, o := o } Ao k co, .slice A3 m c3]) (by simp [results, Try.results10, go_sem, HV, z0, z1, z2, z3, z4, z5, z6, z7, z8, z9]) rfl ?_
              refine EE.out _ ?_
              repeat (refine Fr.setCell ?_ (.inl (by simp)) _)
              exact Fr.refl _ _
            · go_upto_region 16 with (fail)
              have J5 := HJ5.out.set4 (8 * (fa : Int))
              have O5 := ownsRow_setCell_below HO5.out (a := ⟨w.heap.size + 1 + 1 + 1, 4, none⟩) (by have := HJ5.out.sz; show w.heap.size + 1 + 1 + 1 < _; omega) (.int .i64 (8 * (fa : Int)))
              have hlo := HLO.out
              have FT : Fits { h0 with off := 8 * (fa : Int), o := o } m := by
                rw [HHC.out]
                exact fits_made b0 ID b3 b4 SRC DST m df true (8 * (fa : Int)) o Q.out.1 Q.out.2.2.2.1 Q.out.2.2.2.2.1 HN.out (by omega) hm81 (by omega) (fun h => HMF.out)
              obtain ⟨w5, h5⟩ : ∃ w5, w5 = (wr.setCell ⟨w.heap.size + 1 + 1 + 1, 4, none⟩ (.int .i64 (8 * (fa : Int)))) := ⟨_, rfl⟩
              rw [← h5] at J5 O5 ⊢
              have EE := Lib.hid (show ∀ w6, Fr [w.heap.size + 1] w5 w6 → MadeP w (.returned (.tuple #[HV { h0 with off := 8 * (fa : Int), o := o } Ao k co, .slice A3 m c3])) w6 from fun w6 hF => made_end (h := { h0 with off := 8 * (fa : Int) }) (o := o) J5 O5 hF HLO.out HD3.out hm81 hkc HNL.out FT)
              clear h5 O5 FT hlo
              have h0_ := J5.bh.c0
              have h1_ := J5.bh.c1
              have h2_ := J5.bh.c2
              have h3_ := J5.bh.c3
              have h4_ := J5.bh.c4
              have h5_ := J5.bh.c5
              have h6_ := J5.bh.c6
              have h7_ := J5.bh.c7
              have h8_ := J5.bh.c8
              have h9_ := J5.bh.c9
              have z0 := J5.bz.cell (k := 0) rfl
              have y0 := J5.bz.fz 0
              have z1 := J5.bz.cell (k := 1) rfl
              have y1 := J5.bz.fz 1
              have z2 := J5.bz.cell (k := 2) rfl
              have y2 := J5.bz.fz 2
              have z3 := J5.bz.cell (k := 3) rfl
              have y3 := J5.bz.fz 3
              have z4 := J5.bz.cell (k := 4) rfl
              have y4 := J5.bz.fz 4
              have z5 := J5.bz.cell (k := 5) rfl
              have y5 := J5.bz.fz 5
              have z6 := J5.bz.cell (k := 6) rfl
              have y6 := J5.bz.fz 6
              have z7 := J5.bz.cell (k := 7) rfl
              have y7 := J5.bz.fz 7
              have z8 := J5.bz.cell (k := 8) rfl
              have y8 := J5.bz.fz 8
              have z9 := J5.bz.cell (k := 9) rfl
              have y9 := J5.bz.fz 9
              clear J5
              go_wp2_with fail
              refine bodyPost_ret (v := .tuple #[HV { h0 with off := 8 * (fa : Int), o := o } Ao k co, .slice A3 m c3]) (by simp [results, Try.results10, go_sem, HV, z0, z1, z2, z3, z4, z5, z6, z7, z8, z9]) rfl ?_
              refine EE.out _ ?_
              repeat (refine Fr.setCell ?_ (.inl (by simp)) _)
              exact Fr.refl _ _
      | false =>
        have c13 : w3.cell? ⟨w.heap.size, 13, none⟩ = some (.int .u8 fa) := HJ3.out.bx.cell (by rw [HXC.out]; rfl)
        have c4 := HJ3.out.bh.c4
        have f4 := HJ3.out.bh.fz 4
        by_cases hf : 200 < fa
        · go_upto_region 16 with (fail)
          have J5 := HJ3.out.set4 (8 * (fa : Int))
          have O5 := ownsRow_setCell_below HO3.out (a := ⟨w.heap.size + 1 + 1 + 1, 4, none⟩) (by have := HJ3.out.sz; show w.heap.size + 1 + 1 + 1 < _; omega) (.int .i64 (8 * (fa : Int)))
          replace O5 := ownsRow_setCell_below O5 (a := ⟨w.heap.size + 1 + 1 + 1, 4, none⟩) (by have := HJ3.out.sz; show w.heap.size + 1 + 1 + 1 < _; omega) (.int .i64 ((65515 - (m0 : Int)) / 8 * 8))
          replace J5 := J5.set4 ((65515 - (m0 : Int)) / 8 * 8)
          have hlo := HLO.out
          have FT : Fits { h0 with off := (65515 - (m0 : Int)) / 8 * 8, o := o } m0 := by
            rw [HHC.out]
            exact fits_made b0 ID b3 b4 SRC DST m0 df false ((65515 - (m0 : Int)) / 8 * 8) o Q.out.1 Q.out.2.2.2.1 Q.out.2.2.2.2.1 HN.out (by omega) hm80 (by omega) (fun h => by cases h)
          obtain ⟨w5, h5⟩ : ∃ w5, w5 = ((w3.setCell ⟨w.heap.size + 1 + 1 + 1, 4, none⟩ (.int .i64 (8 * (fa : Int)))).setCell ⟨w.heap.size + 1 + 1 + 1, 4, none⟩ (.int .i64 ((65515 - (m0 : Int)) / 8 * 8))) := ⟨_, rfl⟩
          rw [← h5] at J5 O5 ⊢
          have EE := Lib.hid (show ∀ w6, Fr [w.heap.size + 1] w5 w6 → MadeP w (.returned (.tuple #[HV { h0 with off := (65515 - (m0 : Int)) / 8 * 8, o := o } Ao k co, .slice A2 m0 c2])) w6 from fun w6 hF => made_end (h := { h0 with off := (65515 - (m0 : Int)) / 8 * 8 }) (o := o) J5 O5 hF HLO.out HLX.out hm80 hkc HNL.out FT)
          clear h5 O5 FT hlo
          have h0_ := J5.bh.c0
          have h1_ := J5.bh.c1
          have h2_ := J5.bh.c2
          have h3_ := J5.bh.c3
          have h4_ := J5.bh.c4
          have h5_ := J5.bh.c5
          have h6_ := J5.bh.c6
          have h7_ := J5.bh.c7
          have h8_ := J5.bh.c8
          have h9_ := J5.bh.c9
          have z0 := J5.bz.cell (k := 0) rfl
          have y0 := J5.bz.fz 0
          have z1 := J5.bz.cell (k := 1) rfl
          have y1 := J5.bz.fz 1
          have z2 := J5.bz.cell (k := 2) rfl
          have y2 := J5.bz.fz 2
          have z3 := J5.bz.cell (k := 3) rfl
          have y3 := J5.bz.fz 3
          have z4 := J5.bz.cell (k := 4) rfl
          have y4 := J5.bz.fz 4
          have z5 := J5.bz.cell (k := 5) rfl
          have y5 := J5.bz.fz 5
          have z6 := J5.bz.cell (k := 6) rfl
          have y6 := J5.bz.fz 6
          have z7 := J5.bz.cell (k := 7) rfl
          have y7 := J5.bz.fz 7
          have z8 := J5.bz.cell (k := 8) rfl
          have y8 := J5.bz.fz 8
          have z9 := J5.bz.cell (k := 9) rfl
          have y9 := J5.bz.fz 9
          clear J5
          go_wp2_with fail
          refine bodyPost_ret (v := .tuple #[HV { h0 with off := (65515 - (m0 : Int)) / 8 * 8, o := o } Ao k co, .slice A2 m0 c2]) (by simp [results, Try.results10, go_sem, HV, z0, z1, z2, z3, z4, z5, z6, z7, z8, z9]) rfl ?_
          refine EE.out _ ?_
          repeat (refine Fr.setCell ?_ (.inl (by simp)) _)
          exact Fr.refl _ _
        · go_upto_region 16 with (fail)
          have J5 := HJ3.out.set4 (8 * (fa : Int))
          have O5 := ownsRow_setCell_below HO3.out (a := ⟨w.heap.size + 1 + 1 + 1, 4, none⟩) (by have := HJ3.out.sz; show w.heap.size + 1 + 1 + 1 < _; omega) (.int .i64 (8 * (fa : Int)))
          have hlo := HLO.out
          have FT : Fits { h0 with off := 8 * (fa : Int), o := o } m0 := by
            rw [HHC.out]
            exact fits_made b0 ID b3 b4 SRC DST m0 df false (8 * (fa : Int)) o Q.out.1 Q.out.2.2.2.1 Q.out.2.2.2.2.1 HN.out (by omega) hm80 (by omega) (fun h => by cases h)
          obtain ⟨w5, h5⟩ : ∃ w5, w5 = (w3.setCell ⟨w.heap.size + 1 + 1 + 1, 4, none⟩ (.int .i64 (8 * (fa : Int)))) := ⟨_, rfl⟩
          rw [← h5] at J5 O5 ⊢
          have EE := Lib.hid (show ∀ w6, Fr [w.heap.size + 1] w5 w6 → MadeP w (.returned (.tuple #[HV { h0 with off := 8 * (fa : Int), o := o } Ao k co, .slice A2 m0 c2])) w6 from fun w6 hF => made_end (h := { h0 with off := 8 * (fa : Int) }) (o := o) J5 O5 hF HLO.out HLX.out hm80 hkc HNL.out FT)
          clear h5 O5 FT hlo
          have h0_ := J5.bh.c0
          have h1_ := J5.bh.c1
          have h2_ := J5.bh.c2
          have h3_ := J5.bh.c3
          have h4_ := J5.bh.c4
          have h5_ := J5.bh.c5
          have h6_ := J5.bh.c6
          have h7_ := J5.bh.c7
          have h8_ := J5.bh.c8
          have h9_ := J5.bh.c9
          have z0 := J5.bz.cell (k := 0) rfl
          have y0 := J5.bz.fz 0
          have z1 := J5.bz.cell (k := 1) rfl
          have y1 := J5.bz.fz 1
          have z2 := J5.bz.cell (k := 2) rfl
          have y2 := J5.bz.fz 2
          have z3 := J5.bz.cell (k := 3) rfl
          have y3 := J5.bz.fz 3
          have z4 := J5.bz.cell (k := 4) rfl
          have y4 := J5.bz.fz 4
          have z5 := J5.bz.cell (k := 5) rfl
          have y5 := J5.bz.fz 5
          have z6 := J5.bz.cell (k := 6) rfl
          have y6 := J5.bz.fz 6
          have z7 := J5.bz.cell (k := 7) rfl
          have y7 := J5.bz.fz 7
          have z8 := J5.bz.cell (k := 8) rfl
          have y8 := J5.bz.fz 8
          have z9 := J5.bz.cell (k := 9) rfl
          have y9 := J5.bz.fz 9
          clear J5
          go_wp2_with fail
          refine bodyPost_ret (v := .tuple #[HV { h0 with off := 8 * (fa : Int), o := o } Ao k co, .slice A2 m0 c2]) (by simp [results, Try.results10, go_sem, HV, z0, z1, z2, z3, z4, z5, z6, z7, z8, z9]) rfl ?_
          refine EE.out _ ?_
          repeat (refine Fr.setCell ?_ (.inl (by simp)) _)
          exact Fr.refl _ _
end Go.Proofs.Ytjpcfphmejenoaa
