/- The bytes of a header. -/
import Derived.Test.YtjpcfphmejenoaaIpg
import Derived.Laws.OwnMore
import Derived.Laws.IdiomCopy
import Derived.RegionTactic
import Derived.BigRegion
namespace Go.Proofs.Ytjpcfphmejenoaa
open Go.RowKit
set_option linter.unusedVariables false
set_option maxRecDepth 100000

/-- A header lies in block g. -/
def BoxH (w : World) (g : Nat) (h : Hd) (A : Option Addr) (n c : Nat) : Prop := w.heap[g]? = some (.cells #[.int .u8 h.tos, .int .u16 h.id, .bool h.df, .bool h.mf, .int .i64 h.off, .int .u8 h.ttl, .int .u8 h.proto, .int .u32 h.src, .int .u32 h.dst, .slice A n c] 30 (0, 0))
theorem BoxH.fr {S : List Nat} {w w' : World} {g n c : Nat} {h : Hd} {A : Option Addr} (hB : BoxH w g h A n c) (hF : Fr S w w') (hg : g ∉ S) : BoxH w' g h A n c := hF.blk hB hg
theorem BoxH.c0 {w : World} {g n c : Nat} {h : Hd} {A : Option Addr} (hB : BoxH w g h A n c) : w.cell? ⟨g, 0, none⟩ = some (.int .u8 h.tos) := by unfold BoxH at hB; simp [World.cell?, hB]
theorem BoxH.c1 {w : World} {g n c : Nat} {h : Hd} {A : Option Addr} (hB : BoxH w g h A n c) : w.cell? ⟨g, 1, none⟩ = some (.int .u16 h.id) := by unfold BoxH at hB; simp [World.cell?, hB]
theorem BoxH.c2 {w : World} {g n c : Nat} {h : Hd} {A : Option Addr} (hB : BoxH w g h A n c) : w.cell? ⟨g, 2, none⟩ = some (.bool h.df) := by unfold BoxH at hB; simp [World.cell?, hB]
theorem BoxH.c3 {w : World} {g n c : Nat} {h : Hd} {A : Option Addr} (hB : BoxH w g h A n c) : w.cell? ⟨g, 3, none⟩ = some (.bool h.mf) := by unfold BoxH at hB; simp [World.cell?, hB]
theorem BoxH.c4 {w : World} {g n c : Nat} {h : Hd} {A : Option Addr} (hB : BoxH w g h A n c) : w.cell? ⟨g, 4, none⟩ = some (.int .i64 h.off) := by unfold BoxH at hB; simp [World.cell?, hB]
theorem BoxH.c5 {w : World} {g n c : Nat} {h : Hd} {A : Option Addr} (hB : BoxH w g h A n c) : w.cell? ⟨g, 5, none⟩ = some (.int .u8 h.ttl) := by unfold BoxH at hB; simp [World.cell?, hB]
theorem BoxH.c6 {w : World} {g n c : Nat} {h : Hd} {A : Option Addr} (hB : BoxH w g h A n c) : w.cell? ⟨g, 6, none⟩ = some (.int .u8 h.proto) := by unfold BoxH at hB; simp [World.cell?, hB]
theorem BoxH.c7 {w : World} {g n c : Nat} {h : Hd} {A : Option Addr} (hB : BoxH w g h A n c) : w.cell? ⟨g, 7, none⟩ = some (.int .u32 h.src) := by unfold BoxH at hB; simp [World.cell?, hB]
theorem BoxH.c8 {w : World} {g n c : Nat} {h : Hd} {A : Option Addr} (hB : BoxH w g h A n c) : w.cell? ⟨g, 8, none⟩ = some (.int .u32 h.dst) := by unfold BoxH at hB; simp [World.cell?, hB]
theorem BoxH.c9 {w : World} {g n c : Nat} {h : Hd} {A : Option Addr} (hB : BoxH w g h A n c) : w.cell? ⟨g, 9, none⟩ = some (.slice A n c) := by unfold BoxH at hB; simp [World.cell?, hB]

/-- Zeroes, and what is put over them. -/
def zz (n : Nat) : List UInt8 := List.replicate n 0
def lay9 (h : Hd) (tot n : Nat) : List UInt8 :=
  put2 (put2 (put2 (put2 ((((put2 (put2 (put2 (((zz (20 + n)).set 0 (UInt8.ofNat (64 + (20 + n) / 4))).set 1 (UInt8.ofNat h.tos)) 2 tot) 4 h.id) 6 (flN h)).set 8 (UInt8.ofNat h.ttl)).set 9 (UInt8.ofNat h.proto))) 12 (h.src / 65536)) 14 (h.src % 65536)) 16 (h.dst / 65536)) 18 (h.dst % 65536)
theorem p2_2 (a b c d : UInt8) (r : List UInt8) (v : Nat) : put2 (a :: b :: c :: d :: r) 2 v = a :: b :: hi8 v :: lo8 v :: r := rfl
theorem p2_4 (a b c d e f : UInt8) (r : List UInt8) (v : Nat) : put2 (a :: b :: c :: d :: e :: f :: r) 4 v = a :: b :: c :: d :: hi8 v :: lo8 v :: r := rfl
theorem p2_6 (a b c d e f g i : UInt8) (r : List UInt8) (v : Nat) : put2 (a :: b :: c :: d :: e :: f :: g :: i :: r) 6 v = a :: b :: c :: d :: e :: f :: hi8 v :: lo8 v :: r := rfl
theorem p2_12 (a b c d e f g i j k l m n o : UInt8) (r : List UInt8) (v : Nat) : put2 (a :: b :: c :: d :: e :: f :: g :: i :: j :: k :: l :: m :: n :: o :: r) 12 v = a :: b :: c :: d :: e :: f :: g :: i :: j :: k :: l :: m :: hi8 v :: lo8 v :: r := rfl
theorem p2_14 (a b c d e f g i j k l m n o p q : UInt8) (r : List UInt8) (v : Nat) : put2 (a :: b :: c :: d :: e :: f :: g :: i :: j :: k :: l :: m :: n :: o :: p :: q :: r) 14 v = a :: b :: c :: d :: e :: f :: g :: i :: j :: k :: l :: m :: n :: o :: hi8 v :: lo8 v :: r := rfl
theorem p2_16 (a b c d e f g i j k l m n o p q s t : UInt8) (r : List UInt8) (v : Nat) : put2 (a :: b :: c :: d :: e :: f :: g :: i :: j :: k :: l :: m :: n :: o :: p :: q :: s :: t :: r) 16 v = a :: b :: c :: d :: e :: f :: g :: i :: j :: k :: l :: m :: n :: o :: p :: q :: hi8 v :: lo8 v :: r := rfl
theorem p2_18 (a b c d e f g i j k l m n o p q s t u x : UInt8) (r : List UInt8) (v : Nat) : put2 (a :: b :: c :: d :: e :: f :: g :: i :: j :: k :: l :: m :: n :: o :: p :: q :: s :: t :: u :: x :: r) 18 v = a :: b :: c :: d :: e :: f :: g :: i :: j :: k :: l :: m :: n :: o :: p :: q :: s :: t :: hi8 v :: lo8 v :: r := rfl
theorem t_20 (a' b' c' d' e' f' g' i' j' k' l' m' n' o' p' q' s' t' u' x' : UInt8) (r : List UInt8) : (a' :: b' :: c' :: d' :: e' :: f' :: g' :: i' :: j' :: k' :: l' :: m' :: n' :: o' :: p' :: q' :: s' :: t' :: u' :: x' :: r).take 20 = [a', b', c', d', e', f', g', i', j', k', l', m', n', o', p', q', s', t', u', x'] := rfl
theorem d_20 (a' b' c' d' e' f' g' i' j' k' l' m' n' o' p' q' s' t' u' x' : UInt8) (r : List UInt8) (z : Nat) : (a' :: b' :: c' :: d' :: e' :: f' :: g' :: i' :: j' :: k' :: l' :: m' :: n' :: o' :: p' :: q' :: s' :: t' :: u' :: x' :: r).drop (z + 20) = r.drop z := rfl
theorem lay9_eq (h : Hd) (tot n : Nat) (hl : h.o.length = n) : splice (B8 (lay9 h tot n)) 20 (B8 h.o) = B8 (pk h tot 0) := by
  subst hl
  have e0 : zz (20 + h.o.length) = 0 :: 0 :: 0 :: 0 :: 0 :: 0 :: 0 :: 0 :: 0 :: 0 :: 0 :: 0 :: 0 :: 0 :: 0 :: 0 :: 0 :: 0 :: 0 :: 0 :: zz h.o.length := by
    rw [Nat.add_comm]; rfl
  have e1 : lay9 h tot h.o.length = UInt8.ofNat (64 + (20 + h.o.length) / 4) :: UInt8.ofNat h.tos :: hi8 tot :: lo8 tot :: hi8 h.id :: lo8 h.id :: hi8 (flN h) :: lo8 (flN h) :: UInt8.ofNat h.ttl :: UInt8.ofNat h.proto :: 0 :: 0 ::
    hi8 (h.src / 65536) :: lo8 (h.src / 65536) :: hi8 (h.src % 65536) :: lo8 (h.src % 65536) :: hi8 (h.dst / 65536) :: lo8 (h.dst / 65536) :: hi8 (h.dst % 65536) :: lo8 (h.dst % 65536) :: zz h.o.length := by
    unfold lay9; rw [e0]; simp only [List.set_cons_zero, List.set_cons_succ, p2_2, p2_4, p2_6, p2_12, p2_14, p2_16, p2_18]
  have e2 : (zz h.o.length).drop h.o.length = [] := List.drop_of_length_le (by simp [zz])
  rw [e1]
  unfold splice
  rw [B8_take, B8_drop, B8_length, ← B8_append, ← B8_append]
  refine congrArg B8 ?_
  rw [show 20 + h.o.length = h.o.length + 20 from Nat.add_comm _ _, t_20, d_20, e2, List.append_nil]
  unfold pk
  simp only [List.cons_append, List.nil_append, show hi8 0 = 0 from rfl, show lo8 0 = 0 from rfl, Nat.add_comm h.o.length 20]
def BytP (w : World) (l : List UInt8) (N : Nat) (e : Ending) (w' : World) : Prop :=
  ∃ g c, e = .returned (.slice (some ⟨g, 0, none⟩) N c) ∧ w'.ownsRow w.heap.size 5 1 (.slice (some ⟨g, 0, none⟩) N c) N (B8 l) ∧ Fr [] w w'
theorem len_get {xs : List UInt8} {n k : Nat} (h : xs.length = n) (hk : k < n) : ∃ x, xs[k]? = some x := ⟨_, List.getElem?_eq_getElem (by omega)⟩
theorem u8v {v : Nat} (h : v < 256) : ((v : Nat) : Int) = ((UInt8.ofNat v).toNat : Int) := by rw [u8_nat h]

set_option maxHeartbeats 8000000 in
theorem hbytes_any (h : Hd) (A : Option Addr) (n c m tot N : Nat) (w : World) (hl : h.o.length = n) (hrd : Rd w A (B8 h.o)) (hb : HdB h) (h0 : 0 ≤ h.off) (h1 : h.off ≤ 65515) (hn : n ≤ 40) (hn4 : n % 4 = 0) (hN : N = 20 + n) (ht : tot = N + m) (htl : tot < 65536) (hnil : A = none → c = 0) :
    Calls Try.prog 23 #[HV h A n c, .int .i64 m] w (BytP w (pk h tot 0) N) := by
  obtain ⟨i0, hi, hz0, hz1, hz2⟩ := info_parts info8
  obtain ⟨w1, hm, ho, hg⟩ := run_make_full (P := Try.prog) (w.alloc (.cells #[.int .u8 h.tos, .int .u16 h.id, .bool h.df, .bool h.mf, .int .i64 h.off, .int .u8 h.ttl, .int .u8 h.proto, .int .u32 h.src, .int .u32 h.dst, .slice A n c] 30)) w.heap.size 23 5 i0 (.int .u8 0) 1 Try.underlying23 hi hz0 hz1 .i64 .i64 N (by rw [hz2]; omega) (by unfold maxLen; omega) (by simp)
  have e8 : (madeCells (Value.int .u8 0).cells (N * 1)).toList = B8 (zz N) := by
    rw [Nat.mul_one, show (Value.int .u8 0).cells = #[Value.int .u8 0] from rfl, toList_madeCells_one]
    simp [B8, zz]
  rw [e8] at ho
  have hF1 : Fr [] (w.alloc (.cells #[.int .u8 h.tos, .int .u16 h.id, .bool h.df, .bool h.mf, .int .i64 h.off, .int .u8 h.ttl, .int .u8 h.proto, .int .u32 h.src, .int .u32 h.dst, .slice A n c] 30)) w1 := (Fr.refl _ _).grown hg (by simp)
  have hF : Fr [] w w1 := ((Fr.refl _ w).alloc _).trans hF1
  have hBx : BoxH w1 w.heap.size h A n c := hF1.blk (heap_alloc_new w _) (by simp)
  rw [World.size_alloc] at hm ho
  have hgb : w.heap.size ∉ [w.heap.size + 1] := by simp
  -- the first two bytes
  have z0 := own_cell ho (j := 0) (u := .int .u8 0) (by rw [hN, Nat.add_comm]; rfl)
  have z1 := own_cell ho (j := 1) (u := .int .u8 0) (by rw [hN, Nat.add_comm]; rfl)
  have f0 := own_fz ho 0
  have f1 := own_fz ho 1
  have hO := own_set (own_set ho 0 (.int .u8 (64 + (N : Int) / 4))) 1 (.int .u8 h.tos)
  rw [B8_set _ 0 (UInt8.ofNat (64 + (20 + n) / 4)) (by rw [u8_nat (by omega)]; omega), B8_set _ 1 (UInt8.ofNat h.tos) (by rw [u8_nat hb.tos])] at hO
  have hF2 : Fr [w.heap.size + 1] w1 ((w1.setCell ⟨w.heap.size + 1, 0, none⟩ (.int .u8 (64 + (N : Int) / 4))).setCell ⟨w.heap.size + 1, 1, none⟩ (.int .u8 h.tos)) := ((Fr.refl _ w1).setCell (.inl (by simp)) _).setCell (.inl (by simp)) _
  have hB2 := hBx.fr hF2 hgb
  have hrd2 := hrd.fr hF (by simp)
  have hblk : ∀ ad, A = some ad → ad.block ∉ [w.heap.size + 1] ∨ n = 0 := fun ad e => by
    rcases Nat.eq_zero_or_pos n with h0 | h0
    · exact .inr h0
    · left
      obtain ⟨b, o, hA⟩ := rd_addr8 hrd (by omega)
      rw [hA] at e; injection e with e; subst e
      obtain ⟨x, hx⟩ : ∃ x, h.o[0]? = some x := ⟨_, List.getElem?_eq_getElem (by omega)⟩
      rw [hA] at hrd
      have := World.block_lt_of_cell? w _ (rdj hrd 0 x hx)
      simp; simp at this; omega
  have HZ : Hid (zz N = zz (20 + n)) := by show _ = _; rw [hN]
  have wN : IntKind.i64.wrap (20 + (n : Int)) = (N : Int) := by rw [show (20 : Int) + n = N by omega]; exact IntWalk.i64_in _ (by omega)
  have q4 : (N : Int).tdiv 4 = (N : Int) / 4 := Int.tdiv_eq_ediv_of_nonneg (by omega)
  have w4 : IntKind.u8.wrap ((N : Int) / 4) = (N : Int) / 4 := u8_in (by omega) (by omega)
  have w5 : IntKind.u8.wrap (64 + (N : Int) / 4) = 64 + (N : Int) / 4 := u8_in (by omega) (by omega)
  have w6 : IntKind.i64.wrap ((N : Int) + (m : Int)) = (tot : Int) := by rw [show (N : Int) + m = tot by omega]; exact IntWalk.i64_in _ (by omega)
  have w7 : IntKind.u16.wrap (tot : Int) = (tot : Int) := u16_in (by omega) (by omega)
  have b0 : (0 : Int) < (N : Int) := by omega
  have b1 : (1 : Int) < (N : Int) := by omega
  have b8 : (0 : Int) ≤ 8 ∧ (8 : Int) < (N : Int) := by omega
  have b9 : (0 : Int) ≤ 9 ∧ (9 : Int) < (N : Int) := by omega
  have b20 : (20 : Int) ≤ (N : Int) := by omega
  have nb : N ≤ 140737488351232 := by omega
  have nb2 : N = 20 + n := hN
  have NB := Lib.hid nb2
  have HT := Lib.hid ht
  have HO := Lib.hid hO
  have HB := Lib.hid hb
  have HL := Lib.hid hl
  have HBK := Lib.hid hblk
  have HNIL := Lib.hid hnil
  have lsrc := hb.src
  have ldst := hb.dst
  have lid := hb.id
  have lttl := hb.ttl
  have lpr := hb.proto
  have lfl := flN_lt h0 h1
  have cFl := fun W => flags_any h A n c W h0 h1
  unfold HV at cFl
  have CFL := Lib.hid cFl
  have p0 := hBx.c0
  have r9 := hB2.c9
  rcases Nat.eq_zero_or_pos n with hz | hpos
  · have HZ0 := Lib.hid hz
    clear hO hb hl hblk hnil cFl hi hz0 hz1 hz2 hg ho hF1 hN ht nb2 hrd hz
    unfold HV
    go_enter Try.func23, Try.ntmps23
    go_wp2_with fail
    refine (putWord_any (n := N) (k := 2) (v := tot) HO.out 2 rfl (by omega) nb (by omega)).mono ?_
    rintro e w2 ⟨⟨r, rfl⟩, o2, F2⟩
    replace F2 := hF2.trans F2
    have B2 := hBx.fr F2 hgb
    have q1 := B2.c1
    have O2 := Lib.hid o2
    clear hF2 hB2 o2 p0 r9
    go_wp2_with fail
    refine (putWord_any (n := N) (k := 4) (v := h.id) O2.out 4 rfl (by omega) nb lid).mono ?_
    rintro e w3 ⟨⟨r, rfl⟩, o3, F3⟩
    replace F3 := F2.trans F3
    have B3 := hBx.fr F3 hgb
    have s0 := B3.c0
    have s1 := B3.c1
    have s2 := B3.c2
    have s3 := B3.c3
    have s4 := B3.c4
    have s5 := B3.c5
    have s6 := B3.c6
    have s7 := B3.c7
    have s8 := B3.c8
    have s9 := B3.c9
    have O3 := Lib.hid o3
    clear F2 B2 q1 o3
    go_wp2_with fail
    refine (CFL.out w3).mono ?_
    rintro e w4 ⟨rfl, F4⟩
    have o4 := F4.own O3.out (by simp)
    replace F4 := F3.trans F4.nil
    clear s0 s1 s2 s3 s4 s5 s6 s7 s8 s9
    have O4 := Lib.hid o4
    clear F3 B3 o4
    go_wp2_with fail
    refine (putWord_any (n := N) (k := 6) (v := flN h) O4.out 6 rfl (by omega) nb (by omega)).mono ?_
    rintro e w5 ⟨⟨r, rfl⟩, o5, F5⟩
    replace F5 := F4.trans F5
    have B5 := hBx.fr F5 hgb
    have s5 := B5.c5
    have s6 := B5.c6
    have s7 := B5.c7
    have s8 := B5.c8
    have s9 := B5.c9
    have hl5 : (put2 (put2 (put2 (((zz N).set 0 (UInt8.ofNat (64 + (20 + n) / 4))).set 1 (UInt8.ofNat h.tos)) 2 tot) 4 h.id) 6 (flN h)).length = N := by have := o5.1; rw [B8_length] at this; omega
    obtain ⟨y8, hy8⟩ := len_get (k := 8) hl5 (by omega)
    obtain ⟨y9, hy9⟩ := len_get (k := 9) hl5 (by omega)
    have c8 := own_cell o5 (j := 8) (u := .int .u8 y8.toNat) (by rw [B8_get, hy8]; rfl)
    have c9 := own_cell o5 (j := 9) (u := .int .u8 y9.toNat) (by rw [B8_get, hy9]; rfl)
    have g8 := own_fz o5 8
    have g9 := own_fz o5 9
    have o6 := own_set (own_set o5 8 (.int .u8 h.ttl)) 9 (.int .u8 h.proto)
    rw [B8_set _ 8 (UInt8.ofNat h.ttl) (by rw [u8_nat lttl]), B8_set _ 9 (UInt8.ofNat h.proto) (by rw [u8_nat lpr])] at o6
    have F6 : Fr [w.heap.size + 1] w1 ((w5.setCell ⟨w.heap.size + 1, 8, none⟩ (.int .u8 h.ttl)).setCell ⟨w.heap.size + 1, 9, none⟩ (.int .u8 h.proto)).drew := ((F5.setCell (.inl (by simp)) _).setCell (.inl (by simp)) _).drew
    have o6' := own_alk (w' := ((w5.setCell ⟨w.heap.size + 1, 8, none⟩ (.int .u8 h.ttl)).setCell ⟨w.heap.size + 1, 9, none⟩ (.int .u8 h.proto)).drew) o6 rfl
    have O6 := Lib.hid o6'
    have F6' := Lib.hid F6
    clear F4 o5 o6 o6' hl5 hy8 hy9 F6
    go_wp2_with fail
    go_region
    have F6 := F6'.out
    have B6 := hBx.fr F6 hgb
    have t7 := B6.c7
    have t8 := B6.c8
    have t9 := B6.c9
    clear s5 s6 s7 s8 s9 c8 c9 g8 g9 F5 B5 F6'
    generalize ((w5.setCell ⟨w.heap.size + 1, 8, none⟩ (.int .u8 h.ttl)).setCell ⟨w.heap.size + 1, 9, none⟩ (.int .u8 h.proto)).drew = w6 at *
    go_wp2_with fail
    refine (putLong_any (n := N) (k := 12) (v := h.src) O6.out 12 rfl (by omega) nb lsrc).mono ?_
    rintro e w7 ⟨⟨r, rfl⟩, o7, F7⟩
    replace F7 := F6.trans F7
    have B7 := hBx.fr F7 hgb
    clear t7 t8 t9 B6
    have t8 := B7.c8
    have O7 := Lib.hid o7
    clear F6 o7
    go_wp2_with fail
    refine (putLong_any (n := N) (k := 16) (v := h.dst) O7.out 16 rfl (by omega) nb ldst).mono ?_
    rintro e w8 ⟨⟨r, rfl⟩, o8, F8⟩
    replace F8 := F7.trans F8
    have B8' := hBx.fr F8 hgb
    have t9 := B8'.c9
    clear t8 B7 F7
    replace o8 : w8.ownsRow w.heap.size 5 1 (.slice (some ⟨w.heap.size + 1, 0, none⟩) N N) N (B8 (lay9 h tot n)) := by rw [HZ.out] at o8; exact o8
    have hl8 : (lay9 h tot n).length = N := by have := o8.1; rw [B8_length] at this; omega
    have hcp := run_copy_none (P := Try.prog) w8.drew 23 23 3 5 (if N = 20 then some ⟨w.heap.size + 1, 0, none⟩ else some ⟨w.heap.size + 1, 20, none⟩) A (N - 20) (N - 20) n c Try.underlying23 (by kernel_rfl) (by rw [HZ0.out]; simp)
    have hpk : splice (B8 (lay9 h tot n)) 20 (B8 h.o) = B8 (lay9 h tot n) := by
      have ho0 : h.o = [] := List.eq_nil_of_length_eq_zero (by rw [HL.out]; exact HZ0.out)
      rw [ho0]; unfold splice; simp [B8]
    rw [← hpk, lay9_eq h tot n HL.out] at o8
    have oF := own_alk (w' := w8.drew) o8 rfl
    have fF := F8.drew
    have sF : w8.drew.cell? ⟨w.heap.size, 9, none⟩ = some (.slice A n c) := t9
    have OF := Lib.hid oF
    have FF := Lib.hid fF
    clear o8 F8 B8' hpk oF O7 O6 O4 O3 O2 HO hl8 fF
    go_wp2_with fail
    go_region_held3 (fun w' => w'.cell? ⟨w.heap.size, 9, none⟩ = some (.slice A n c)) ((first | go_keep | exact sF)) ((first | (refine step_cp rfl _ _ _ _ rfl hcp rfl rfl ?_)))
    go_wp2
    all_goals go_ret
    all_goals (obtain rfl : N = 20 := by (have e1 := NB.out; have e2 := HZ0.out; omega))
    all_goals exact ⟨w.heap.size + 1, 20, rfl, OF.out, hF.trans2 FF.out (by intro t ht; rw [List.mem_singleton] at ht; subst ht; exact .inr (by omega))⟩
  · clear hO hb hl hblk hnil cFl hi hz0 hz1 hz2 hg ho hF1 hN ht nb2 hrd
    unfold HV
    go_enter Try.func23, Try.ntmps23
    go_wp2_with fail
    refine (putWord_any (n := N) (k := 2) (v := tot) HO.out 2 rfl (by omega) nb (by omega)).mono ?_
    rintro e w2 ⟨⟨r, rfl⟩, o2, F2⟩
    replace F2 := hF2.trans F2
    have B2 := hBx.fr F2 hgb
    have q1 := B2.c1
    have O2 := Lib.hid o2
    clear hF2 hB2 o2 p0 r9
    go_wp2_with fail
    refine (putWord_any (n := N) (k := 4) (v := h.id) O2.out 4 rfl (by omega) nb lid).mono ?_
    rintro e w3 ⟨⟨r, rfl⟩, o3, F3⟩
    replace F3 := F2.trans F3
    have B3 := hBx.fr F3 hgb
    have s0 := B3.c0
    have s1 := B3.c1
    have s2 := B3.c2
    have s3 := B3.c3
    have s4 := B3.c4
    have s5 := B3.c5
    have s6 := B3.c6
    have s7 := B3.c7
    have s8 := B3.c8
    have s9 := B3.c9
    have O3 := Lib.hid o3
    clear F2 B2 q1 o3
    go_wp2_with fail
    refine (CFL.out w3).mono ?_
    rintro e w4 ⟨rfl, F4⟩
    have o4 := F4.own O3.out (by simp)
    replace F4 := F3.trans F4.nil
    clear s0 s1 s2 s3 s4 s5 s6 s7 s8 s9
    have O4 := Lib.hid o4
    clear F3 B3 o4
    go_wp2_with fail
    refine (putWord_any (n := N) (k := 6) (v := flN h) O4.out 6 rfl (by omega) nb (by omega)).mono ?_
    rintro e w5 ⟨⟨r, rfl⟩, o5, F5⟩
    replace F5 := F4.trans F5
    have B5 := hBx.fr F5 hgb
    have s5 := B5.c5
    have s6 := B5.c6
    have s7 := B5.c7
    have s8 := B5.c8
    have s9 := B5.c9
    have hl5 : (put2 (put2 (put2 (((zz N).set 0 (UInt8.ofNat (64 + (20 + n) / 4))).set 1 (UInt8.ofNat h.tos)) 2 tot) 4 h.id) 6 (flN h)).length = N := by have := o5.1; rw [B8_length] at this; omega
    obtain ⟨y8, hy8⟩ := len_get (k := 8) hl5 (by omega)
    obtain ⟨y9, hy9⟩ := len_get (k := 9) hl5 (by omega)
    have c8 := own_cell o5 (j := 8) (u := .int .u8 y8.toNat) (by rw [B8_get, hy8]; rfl)
    have c9 := own_cell o5 (j := 9) (u := .int .u8 y9.toNat) (by rw [B8_get, hy9]; rfl)
    have g8 := own_fz o5 8
    have g9 := own_fz o5 9
    have o6 := own_set (own_set o5 8 (.int .u8 h.ttl)) 9 (.int .u8 h.proto)
    rw [B8_set _ 8 (UInt8.ofNat h.ttl) (by rw [u8_nat lttl]), B8_set _ 9 (UInt8.ofNat h.proto) (by rw [u8_nat lpr])] at o6
    have F6 : Fr [w.heap.size + 1] w1 ((w5.setCell ⟨w.heap.size + 1, 8, none⟩ (.int .u8 h.ttl)).setCell ⟨w.heap.size + 1, 9, none⟩ (.int .u8 h.proto)).drew := ((F5.setCell (.inl (by simp)) _).setCell (.inl (by simp)) _).drew
    have o6' := own_alk (w' := ((w5.setCell ⟨w.heap.size + 1, 8, none⟩ (.int .u8 h.ttl)).setCell ⟨w.heap.size + 1, 9, none⟩ (.int .u8 h.proto)).drew) o6 rfl
    have O6 := Lib.hid o6'
    have F6' := Lib.hid F6
    clear F4 o5 o6 o6' hl5 hy8 hy9 F6
    go_wp2_with fail
    go_region
    have F6 := F6'.out
    have B6 := hBx.fr F6 hgb
    have t7 := B6.c7
    have t8 := B6.c8
    have t9 := B6.c9
    clear s5 s6 s7 s8 s9 c8 c9 g8 g9 F5 B5 F6'
    generalize ((w5.setCell ⟨w.heap.size + 1, 8, none⟩ (.int .u8 h.ttl)).setCell ⟨w.heap.size + 1, 9, none⟩ (.int .u8 h.proto)).drew = w6 at *
    go_wp2_with fail
    refine (putLong_any (n := N) (k := 12) (v := h.src) O6.out 12 rfl (by omega) nb lsrc).mono ?_
    rintro e w7 ⟨⟨r, rfl⟩, o7, F7⟩
    replace F7 := F6.trans F7
    have B7 := hBx.fr F7 hgb
    clear t7 t8 t9 B6
    have t8 := B7.c8
    have O7 := Lib.hid o7
    clear F6 o7
    go_wp2_with fail
    refine (putLong_any (n := N) (k := 16) (v := h.dst) O7.out 16 rfl (by omega) nb ldst).mono ?_
    rintro e w8 ⟨⟨r, rfl⟩, o8, F8⟩
    replace F8 := F7.trans F8
    have B8' := hBx.fr F8 hgb
    have t9 := B8'.c9
    clear t8 B7 F7
    replace o8 : w8.ownsRow w.heap.size 5 1 (.slice (some ⟨w.heap.size + 1, 0, none⟩) N N) N (B8 (lay9 h tot n)) := by rw [HZ.out] at o8; exact o8
    have hl8 : (lay9 h tot n).length = N := by have := o8.1; rw [B8_length] at this; omega
    obtain ⟨bo, oo, rfl⟩ : ∃ bo oo, A = some ⟨bo, oo, none⟩ := rd_addr8 hrd2 (by rw [HL.out]; exact hpos)
    have hbo : bo ∉ [w.heap.size + 1] := (HBK.out _ rfl).resolve_right (by omega)
    have hrd8 : Rd w8.drew (some ⟨bo, oo, none⟩) (B8 h.o) := hrd2.fr (F8.drew) (by intro ad e; injection e with e; subst e; exact hbo)
    obtain ⟨w9, hr, oF, F9⟩ := copy_run (P := Try.prog) (k := 20) Try.underlying23 (by kernel_rfl) w8.drew 3 (own_alk (w' := w8.drew) o8 rfl) ⟨bo, oo, none⟩ n c (N - 20) (by rw [B8_length]; exact HL.out) hrd8 (B8_one _) (by have := NB.out; omega)
    rw [lay9_eq h tot n HL.out] at oF
    have fF := F8.drew.trans F9
    have sF : w9.cell? ⟨w.heap.size, 9, none⟩ = some (.slice (some ⟨bo, oo, none⟩) n c) := (hBx.fr fF hgb).c9
    have t9' : w8.drew.cell? ⟨w.heap.size, 9, none⟩ = some (.slice (some ⟨bo, oo, none⟩) n c) := t9
    have hN20 : N - 20 = n := by have := NB.out; omega
    rw [hN20] at hr
    have hne : ¬ N = 20 := by have := NB.out; omega
    have OF := Lib.hid oF
    have FF := Lib.hid fF
    clear o8 F8 B8' oF O7 O6 O4 O3 O2 HO hrd8 F9 hl8 fF
    go_wp2_with fail
    go_region_held3 (fun w' => w'.cell? ⟨w.heap.size, 9, none⟩ = some (.slice (some ⟨bo, oo, none⟩) n c)) ((first | go_keep | exact sF)) ((first | (refine step_cp rfl _ _ _ _ rfl hr rfl rfl ?_)))
    go_wp2
    all_goals go_ret
    all_goals exact ⟨w.heap.size + 1, N, rfl, OF.out, hF.trans2 FF.out (by intro t ht; rw [List.mem_singleton] at ht; subst ht; exact .inr (by omega))⟩
end Go.Proofs.Ytjpcfphmejenoaa
