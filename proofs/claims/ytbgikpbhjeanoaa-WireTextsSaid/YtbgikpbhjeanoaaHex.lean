/- Hex. -/
import Derived.Test.YtbgikpbhjeanoaaCl
import Derived.Test.YtbgikpbhjeanoaaDig
import Derived.Test.YtbgikpbhjeanoaaRd
import Derived.Deep.RegionLaw
namespace Go.Proofs.Ytbgikpbhjeanoaa
open Go.RowKit

/-- A slice with something in it begins at a plain address. -/
theorem rd_addr {w : World} {A : Option Addr} {bs : List UInt8} (h : Rd w A (B8 bs)) (hn : 0 < bs.length) : ∃ b o, A = some ⟨b, o, none⟩ := by
  obtain ⟨ad, e, hc⟩ := h 0 (.int .u8 (bs[0]'hn).toNat) (by rw [B8_get, List.getElem?_eq_getElem hn]; rfl)
  obtain ⟨b, o, he2⟩ := addr_of hc
  exact ⟨b, o, by rw [e]; simpa [Addr.add] using he2⟩

/-- A new block of bytes reads as it was made. -/
theorem rd_new (w : World) (l : List UInt8) (t : TypeId) (n : Nat) : Rd ((w.alloc (.cells (B8 l).toArray t)).drewN n) (some ⟨w.heap.size, 0, none⟩) (B8 l) := fun j u hu => by
  refine ⟨_, rfl, ?_⟩
  rw [add_lit, Nat.zero_add, World.cell?_drewN, World.cell?_alloc_at _ _ _ _ rfl]
  simpa using hu

def hx (k : Nat) : UInt8 := hexd.getD k 0
/-- The text of bytes. -/
def hexOf (bs : List UInt8) : List UInt8 := bs.flatMap fun x => [hx (x.toNat / 16), hx (x.toNat % 16)]
theorem hexOf_length (bs : List UInt8) : (hexOf bs).length = 2 * bs.length := by
  induction bs with
  | nil => rfl
  | cons x l ih => simp only [hexOf, List.flatMap_cons, List.length_append, List.length_cons, List.length_nil] at ih ⊢; omega
theorem hexOf_snoc (bs : List UInt8) (x : UInt8) : hexOf (bs ++ [x]) = hexOf bs ++ [hx (x.toNat / 16), hx (x.toNat % 16)] := by simp [hexOf]

theorem shr4 (x : UInt8) : (0 : Int) ≤ (x.toNat : Int) / 16 ∧ (x.toNat : Int) / 16 < 16 := by have := x.toNat_lt; omega

theorem hx_get (k : Nat) (hk : k < 16) (h : k < (⟨#[48, 49, 50, 51, 52, 53, 54, 55, 56, 57, 97, 98, 99, 100, 101, 102]⟩ : ByteArray).size) : ((⟨#[48, 49, 50, 51, 52, 53, 54, 55, 56, 57, 97, 98, 99, 100, 101, 102]⟩ : ByteArray)[k]'h) = hx k := by
  have h' : k = 0 ∨ k = 1 ∨ k = 2 ∨ k = 3 ∨ k = 4 ∨ k = 5 ∨ k = 6 ∨ k = 7 ∨ k = 8 ∨ k = 9 ∨ k = 10 ∨ k = 11 ∨ k = 12 ∨ k = 13 ∨ k = 14 ∨ k = 15 := by omega
  rcases h' with rfl | rfl | rfl | rfl | rfl | rfl | rfl | rfl | rfl | rfl | rfl | rfl | rfl | rfl | rfl | rfl <;> rfl
theorem and15 (x : UInt8) : bits BinOp.and IntKind.u8 (x.toNat : Int) 15 = (x.toNat : Int) % 16 := by
  have h := u8_and_nat x.toNat 15 x.toNat_lt (by omega)
  have h2 : ((15 : Nat) : Int) = 15 := rfl
  rw [h2] at h
  rw [h, nat_mask4]
  omega

/-- string(b), of a slice whose cells are known. -/
theorem conv_rd {P : Program} {src e dst : TypeId} (hs : P.underlying src = some (.slice e)) (he : P.underlying e = some (.int .u8)) (hd : P.underlying dst = some .string) {w : World} {A : Option Addr} {n c : Nat} {bs : List UInt8} (hl : bs.length = n) (hrd : Rd w A (B8 bs)) :
    (convert src dst (.slice A n c)).run P w = .ok (.string ⟨bs.toArray⟩) w := by
  cases A with
  | none =>
    obtain rfl := nil_of_rd hrd
    rw [run_convert_bytes_nil w src e hs he n c dst hd]
    rfl
  | some ad =>
    by_cases h0 : n = 0
    · subst h0
      obtain rfl : bs = [] := List.eq_nil_of_length_eq_zero hl
      have h0 : (loadCells ad 0).run P w = .ok ([].map (Value.int .u8)).toArray w := run_loadCells_list (P := P) w ad [] (fun j v hj => by simp at hj)
      rw [run_convert_bytes_string w src dst e _ 0 c hs he hd, run_bytesToString w _ 0 c [] h0]
      rfl
    · obtain ⟨u, hu⟩ : ∃ u, bs[0]? = some u := ⟨_, List.getElem?_eq_getElem (by omega)⟩
      have h1 := hrd.get (j := 0) (u := .int .u8 u.toNat) (by rw [B8_get, hu]; rfl)
      obtain ⟨b, o, he2⟩ := addr_of h1
      have hab : ad = ⟨b, o, none⟩ := by simpa [Addr.add] using he2
      subst hab
      rw [run_convert_bytes_arg w src e hs he b o n c (bs.map fun x => (x.toNat : Int)) (by simpa using hl) (fun i hi => by
        have hib : i < bs.length := by omega
        have := rdj hrd i bs[i] (List.getElem?_eq_getElem hib)
        rw [this]
        simp [List.getD, List.getElem?_eq_getElem hib]) dst hd]
      congr 2
      simp only [strOfNums, List.map_map]
      congr 2
      refine Eq.trans (List.map_congr_left (g := id) ?_) (List.map_id _)
      intro x _
      simp

set_option maxRecDepth 20000 in
set_option maxHeartbeats 400000 in
theorem hex_long (A : Option Addr) (n c : Nat) (w : World) (hn : 131072 < n) :
    Calls Try.prog 36 #[.slice A n c] w fun e w' => e = .returned (.tuple #[.string ⟨#[]⟩, .int .i64 3]) ∧ w = w' := by
  go_enter Try.func36, Try.ntmps36
  go_wp2
  go_ret2
  exact ⟨rfl, rfl⟩

def HexYes (w : World) (bs : List UInt8) (e : Ending) (w' : World) : Prop := e = .returned (.tuple #[.string ⟨(hexOf bs).toArray⟩, .int .i64 0]) ∧ Fr [] w w'

set_option maxRecDepth 20000 in
set_option maxHeartbeats 1000000 in
theorem hex_yes (A : Option Addr) (n c : Nat) (bs : List UInt8) (w : World) (hl : bs.length = n) (hrd : Rd w A (B8 bs)) (hn : n ≤ 131072) :
    Calls Try.prog 36 #[.slice A n c] w (HexYes w bs) := by
  obtain ⟨i0, hi, hz0, hz1, hz2⟩ := info_parts info8
  obtain ⟨w1, hm, ho, hg⟩ := run_make_own (P := Try.prog) w w.heap.size 22 5 i0 (.int .u8 0) 1 Try.underlying22 hi hz0 hz1 .i64 .i64 (2 * n) (by rw [hz2]; omega) (by unfold maxLen; omega) (Nat.le_refl _)
  have hF : Fr [] w w1 := (Fr.refl _ w).grown hg (by simp)
  have hm' : Sem.run Try.prog (Instr.makeSlice 22 (Value.int IntKind.i64 0) (Value.int IntKind.i64 (2 * (n : Int)))) w = .ok (.slice (some ⟨w.heap.size, 0, none⟩) 0 (2 * n)) w1 := by
    rw [← hm]; congr 3
  have HO := Lib.hid ho
  have Hl := Lib.hid hl
  clear hm ho hg hi hz0 hz1 hz2 hl i0
  go_enter Try.func36, Try.ntmps36
  go_wp2
  go_loopw [4, 16] (fun v i wr => ∃ k : Nat, k ≤ n ∧ i = .int .i64 k ∧ wr.ownsRow w.heap.size 5 1 v (2 * k) (B8 (hexOf (bs.take k))) ∧ Fr [] w wr) (fun _ i _ => n - (intOf i).toNat)
  case atStart => exact ⟨0, Nat.zero_le _, rfl, HO.out, hF⟩
  case round =>
    obtain ⟨k, hk, rfl, hown, hFr⟩ := hrel
    by_cases hlt : k < n
    · have hkl : k < bs.length := by have := Hl.out; omega
      obtain ⟨b, o, rfl⟩ := rd_addr hrd (by omega)
      obtain ⟨x, hx0⟩ : ∃ x, bs[k]? = some x := ⟨_, List.getElem?_eq_getElem hkl⟩
      have hcell := rdj (hrd.fr hFr (by simp)) k x hx0
      have hxlt := b8lt x
      have hx1 := shr4 x
      have HS : Hid (bs.take (k + 1) = bs.take k ++ [x]) := by show _ = _; rw [List.take_add_one, hx0]; rfl
      clear hrd hx0
      have hb15 := and15 x
      have hx2 : (0 : Int) ≤ (x.toNat : Int) % 16 ∧ (x.toNat : Int) % 16 < 16 := by omega
      have e1 := hx_get ((x.toNat : Int) / 16).toNat (by omega) (by simp [ByteArray.size]; omega)
      have e2 := hx_get ((x.toNat : Int) % 16).toNat (by omega) (by simp [ByteArray.size]; omega)
      have n1 : ((x.toNat : Int) / 16).toNat = x.toNat / 16 := by omega
      have n2 : ((x.toNat : Int) % 16).toNat = x.toNat % 16 := by omega
      generalize hy1 : hx ((x.toNat : Int) / 16).toNat = y1 at e1
      generalize hy2 : hx ((x.toNat : Int) % 16).toNat = y2 at e2
      rw [n1] at hy1
      rw [n2] at hy2
      clear n1 n2
      have HY1 := Lib.hid hy1
      have HY2 := Lib.hid hy2
      clear hy1 hy2
      obtain ⟨v', w2, hr, ho2, hg2, -⟩ := app_run el8 (wr.alloc (.cells #[.int .u8 y1.toNat, .int .u8 y2.toNat] 5)).drew w.heap.size 22 u4 (2 * k) _ (own_alk (hown.alloc _) rfl)
        (some ⟨wr.heap.size, 0, none⟩) 2 2 (B8 [y1, y2]) rfl (rd_new wr _ _ 1) (B8_one _) (by simp) (by unfold maxLen; omega) (by omega) (by simp; have := hFr.size; omega)
      have hfin : w2.ownsRow w.heap.size 5 1 v' (2 * (k + 1)) (B8 (hexOf (bs.take (k + 1)))) := by
        rw [HS.out, hexOf_snoc, B8_append, HY1.out, HY2.out]
        exact ho2
      have hFr2 : Fr [] w w2 := ((hFr.alloc _).drew).grown hg2 (fun g hgg => .inr (hown.lt g hgg).1)
      have HO2 := Lib.hid hfin
      clear ho2 hg2 hfin hown hFr
      go_wp2
      go_region_law (first | (refine step_app rfl _ _ _ rfl hr rfl rfl ?_))
      all_goals go_wp2
      all_goals go_roundw
      all_goals first
        | exact ⟨k + 1, by omega, by go_num, HO2.out, hFr2⟩
        | (simp [intOf]; omega)
    · obtain rfl : k = n := by omega
      have htk : bs.take k = bs := List.take_of_length_le (by rw [Hl.out]; exact Nat.le_refl _)
      rw [htk] at hown
      obtain ⟨A2, c2, rfl, -⟩ := own_slice hown
      have hcv := conv_rd (P := Try.prog) (c := c2) Try.underlying22 Try.underlying5 Try.underlying9 (by rw [hexOf_length, Hl.out]) (Rd.own hown)
      clear hown htk hrd
      go_wp2
      go_ret2
      exact ⟨rfl, hFr⟩
end Go.Proofs.Ytbgikpbhjeanoaa
