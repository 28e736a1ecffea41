/- The walk of WireWrong. -/
import Derived.Test.YtbgikpbhjeanoaaOne
import Derived.BigRegion
import Derived.Laws.BytesString
namespace Go.Proofs.Ytbgikpbhjeanoaa
open Go.RowKit

theorem dg_high (q : UInt8) (h : 128 ≤ q.toNat) : dg q < 0 := by
  rcases Int.lt_or_le (dg q) 0 with h1 | h1
  · exact h1
  · exfalso
    have h2 := idx_get hexd q h1
    have h3 : q ∈ hexd := List.mem_of_getElem? h2
    simp only [hexd, List.mem_cons, List.not_mem_nil, or_false] at h3
    rcases h3 with h3 | h3 | h3 | h3 | h3 | h3 | h3 | h3 | h3 | h3 | h3 | h3 | h3 | h3 | h3 | h3 <;> (subst h3; exact absurd h (by decide))
theorem bad_mid (t : ByteArray) (i : Nat) (hi : i ≤ t.size) (ht : t.size ≤ 4000) (x : UInt8) (hx : dg x < 0) :
    (t.extract 0 i ++ ⟨#[x]⟩ ++ t.extract i t.size ++ ⟨#[48]⟩ : ByteArray).size ≤ 262144 ∧ ((t.extract 0 i ++ ⟨#[x]⟩ ++ t.extract i t.size ++ ⟨#[48]⟩ : ByteArray).size % 2 = 1 ∨ ¬ AllDig (t.extract 0 i ++ ⟨#[x]⟩ ++ t.extract i t.size ++ ⟨#[48]⟩ : ByteArray).data.toList) := by
  have e1 : (⟨#[x]⟩ : ByteArray).size = 1 := rfl
  have e2 : (⟨#[48]⟩ : ByteArray).size = 1 := rfl
  have hsz : (t.extract 0 i ++ ⟨#[x]⟩ ++ t.extract i t.size ++ ⟨#[48]⟩ : ByteArray).size = t.size + 2 := by
    simp only [ByteArray.size_append, ByteArray.size_extract, e1, e2]
    omega
  refine ⟨by omega, .inr fun h => ?_⟩
  have hl : t.data.toList.length = t.size := size_list t
  have h1 := h i (by rw [size_list, hsz]; omega)
  have e3 : (t.extract 0 i ++ ⟨#[x]⟩ ++ t.extract i t.size ++ ⟨#[48]⟩ : ByteArray).data.toList = t.data.toList.take i ++ ([x] ++ ((t.extract i t.size).data.toList ++ [48])) := by
    simp [ByteArray.data_append, ByteArray.data_extract]
  rw [e3] at h1
  have e4 : (t.data.toList.take i ++ ([x] ++ ((t.extract i t.size).data.toList ++ [48]))).getD i 0 = x := by
    have hlen : (t.data.toList.take i).length = i := by rw [List.length_take]; omega
    rw [List.getD, List.getElem?_append_right (by omega), hlen, Nat.sub_self]
    rfl
  rw [e4] at h1
  omega
theorem or128 (z : Int) (h0 : 0 ≤ z) (h1 : z ≤ 255) : ∃ q : UInt8, bits BinOp.or IntKind.u8 z 128 = (q.toNat : Int) ∧ 128 ≤ q.toNat := by
  obtain ⟨x, rfl⟩ := Int.eq_ofNat_of_zero_le h0
  have e := u8_or_nat x 128 (by omega) (by omega)
  have h2 : x ||| 128 < 2 ^ 8 := Nat.or_lt_two_pow (by omega) (by omega)
  have h3 : 128 ≤ x ||| 128 := Nat.right_le_or
  refine ⟨UInt8.ofNat (x ||| 128), ?_, ?_⟩
  · rw [UInt8.toNat_ofNat', Nat.mod_eq_of_lt h2]; exact e
  · rw [UInt8.toNat_ofNat', Nat.mod_eq_of_lt h2]; exact h3

set_option maxRecDepth 100000 in
set_option maxHeartbeats 4000000 in
theorem wrong_any (A : Option Addr) (n c m : Nat) (ys : List UInt8) (at_ z : Int) (w : World) (hm : (n ≤ 2000 ∧ m = n) ∨ (¬ n ≤ 2000 ∧ m = 2000)) (hl : ys.length = m) (hrd : Rd w A (B8 ys)) (hnc : n ≤ c)
    (ha0 : 0 ≤ at_) (ha1 : at_ ≤ 65535) (hz0 : 0 ≤ z) (hz1 : z ≤ 255) :
    Calls Try.prog 10 #[.slice A n c, .int .u16 at_, .int .u8 z] w fun e w' => e = .returned (.bool true) ∧ Fr [] w w' := by
  have HL := Lib.hid hl
  have hm2 : m ≤ 2000 ∧ m ≤ n := by omega
  generalize ht : (⟨(hexOf ys).toArray⟩ : ByteArray) = t
  have htl : t.data.toList = hexOf ys := by rw [← ht]
  have hts : t.size = 2 * m := by rw [← size_list, htl, hexOf_length, hl]
  have htb : (t.size : Int) ≤ 4000 := by omega
  have htn : t.size ≤ 4000 := by omega
  obtain ⟨q, hq, hq2⟩ := or128 z hz0 hz1
  have htb0 : (0 : Int) ≤ (t.size : Int) := by omega
  have HTS := Lib.hid hts
  have HT := Lib.hid ht
  have HTL := Lib.hid htl
  clear hl ht htl hts
  rcases hm with ⟨hn, hmn⟩ | ⟨hn, hmn⟩
  case' inl =>
    obtain rfl : n = m := hmn.symm
    clear hmn
    go_enter Try.func10, Try.ntmps10
    go_wp2_with fail
    refine (awake_any w).mono ?_
    rintro e w1 ⟨rfl, hF⟩
    have hr1 := hrd.fr hF (by simp)
    go_wp2_with fail
  case' inr =>
    have HMN := Lib.hid hmn
    clear hmn
    go_enter Try.func10, Try.ntmps10
    go_wp2_with fail
    refine (awake_any w).mono ?_
    rintro e w1 ⟨rfl, hF⟩
    have hr1 := hrd.fr hF (by simp)
    go_wp2_with fail
    rw [← HMN.out]
  all_goals
    have hH := hex_yes A _ c ys w1 HL.out hr1 (by omega)
    unfold HexYes at hH
    rw [HT.out] at hH
    refine hH.mono ?_
    clear hH
    rintro e w2 ⟨rfl, hF2⟩
    replace hF := hF.trans hF2
    clear hr1 hF2
    go_wp2_with fail
  all_goals
    obtain ⟨i, hi⟩ := Int.eq_ofNat_of_zero_le (show 0 ≤ at_ % ((t.size : Int) + 1) from Int.emod_nonneg _ (by omega))
    have hi1 : (i : Int) < (t.size : Int) + 1 := by rw [← hi]; exact Int.emod_lt_of_pos _ (by omega)
    rw [hi]
    have hi2 : (i : Int) ≤ (t.size : Int) := by omega
    have hi3 : i ≤ t.size := by omega
    have hi4 : (0 : Int) ≤ (i : Int) := by omega
    have HI := Lib.hid hi
    clear hi hi1
    have hcv := conv_rd (P := Try.prog) (c := 1) Try.underlying22 Try.underlying5 Try.underlying9 (n := 1) (bs := [q]) rfl (rd_new w2 [q] 5 1)
    replace hcv : Sem.run Try.prog (convert 22 9 (.slice (some ⟨w2.heap.size, 0, none⟩) 1 1)) (w2.alloc (.cells #[.int .u8 q.toNat] 5)).drew = .ok (.string ⟨#[q]⟩) (w2.alloc (.cells #[.int .u8 q.toNat] 5)).drew := hcv
  all_goals
    go_region
    have hb0 : Hid ((t ++ ⟨#[48]⟩ : ByteArray).size ≤ 262144 ∧ ((t ++ ⟨#[48]⟩ : ByteArray).size % 2 = 1 ∨ ¬ AllDig (t ++ ⟨#[48]⟩ : ByteArray).data.toList)) := by
      have h := HTS.out
      have e : (t ++ ⟨#[48]⟩ : ByteArray).size = t.size + 1 := by rw [ByteArray.size_append]; rfl
      rw [e]
      exact ⟨by omega, .inl (by omega)⟩
    have hb1 := Lib.hid (bad_mid t i hi3 htn 65 (by decide))
    have hb2 := Lib.hid (bad_mid t i hi3 htn 71 (by decide))
    have hb3 := Lib.hid (bad_mid t i hi3 htn 32 (by decide))
    have hb4 := Lib.hid (bad_mid t i hi3 htn q (dg_high q hq2))
    generalize (t ++ ⟨#[48]⟩ : ByteArray) = s0 at hb0 ⊢
    generalize (t.extract 0 i ++ ⟨#[65]⟩ ++ t.extract i t.size ++ ⟨#[48]⟩ : ByteArray) = s1 at hb1 ⊢
    generalize (t.extract 0 i ++ ⟨#[71]⟩ ++ t.extract i t.size ++ ⟨#[48]⟩ : ByteArray) = s2 at hb2 ⊢
    generalize (t.extract 0 i ++ ⟨#[32]⟩ ++ t.extract i t.size ++ ⟨#[48]⟩ : ByteArray) = s3 at hb3 ⊢
    generalize (t.extract 0 i ++ ⟨#[q]⟩ ++ t.extract i t.size ++ ⟨#[48]⟩ : ByteArray) = s4 at hb4 ⊢
    have hblk := heap_alloc_new (w2.alloc (.cells #[.int .u8 q.toNat] 5)) (.cells #[.string s0, .string s1, .string s2, .string s3, .string s4] 9)
    rw [World.size_alloc] at hblk
    have HB := Lib.hid hblk
    clear hblk hcv
    replace hF : Fr [] w ((w2.alloc (.cells #[.int .u8 q.toNat] 5)).alloc (.cells #[.string s0, .string s1, .string s2, .string s3, .string s4] 9)).drew := ((hF.alloc _).alloc _).drew
    replace HB : Hid ((((w2.alloc (.cells #[.int .u8 q.toNat] 5)).alloc (.cells #[.string s0, .string s1, .string s2, .string s3, .string s4] 9)).drew).heap[w2.heap.size + 1]? = some (.cells #[.string s0, .string s1, .string s2, .string s3, .string s4] 9 (0, 0))) := HB
    go_wp2_with fail
    refine wp_loop_rounds 6 ?_
    rw [rounds_succ]
    go_wp2_with fail
    refine (unhex_bad s0 _ hb0.out.1 hb0.out.2).mono ?_
    rintro e w10 ⟨rfl, hF10⟩
    replace hF := hF.trans hF10
    replace HB := Lib.hid (hF10.blk HB.out (by simp))
    clear hF10
    have hc1 : w10.cell? ⟨w2.heap.size + 1, 1, none⟩ = some (.string s1) := by simp [World.cell?, HB.out]
    go_wp2_with fail
    rw [rounds_succ]
    go_wp2_with fail
    refine (unhex_bad s1 _ hb1.out.1 hb1.out.2).mono ?_
    rintro e w11 ⟨rfl, hF11⟩
    replace hF := hF.trans hF11
    replace HB := Lib.hid (hF11.blk HB.out (by simp))
    clear hF11
    have hc2 : w11.cell? ⟨w2.heap.size + 1, 2, none⟩ = some (.string s2) := by simp [World.cell?, HB.out]
    go_wp2_with fail
    rw [rounds_succ]
    go_wp2_with fail
    refine (unhex_bad s2 _ hb2.out.1 hb2.out.2).mono ?_
    rintro e w12 ⟨rfl, hF12⟩
    replace hF := hF.trans hF12
    replace HB := Lib.hid (hF12.blk HB.out (by simp))
    clear hF12
    have hc3 : w12.cell? ⟨w2.heap.size + 1, 3, none⟩ = some (.string s3) := by simp [World.cell?, HB.out]
    go_wp2_with fail
    rw [rounds_succ]
    go_wp2_with fail
    refine (unhex_bad s3 _ hb3.out.1 hb3.out.2).mono ?_
    rintro e w13 ⟨rfl, hF13⟩
    replace hF := hF.trans hF13
    replace HB := Lib.hid (hF13.blk HB.out (by simp))
    clear hF13
    have hc4 : w13.cell? ⟨w2.heap.size + 1, 4, none⟩ = some (.string s4) := by simp [World.cell?, HB.out]
    go_wp2_with fail
    rw [rounds_succ]
    go_wp2_with fail
    refine (unhex_bad s4 _ hb4.out.1 hb4.out.2).mono ?_
    rintro e w14 ⟨rfl, hF14⟩
    replace hF := hF.trans hF14
    replace HB := Lib.hid (hF14.blk HB.out (by simp))
    clear hF14
    go_wp2_with fail
    rw [rounds_succ]
    go_wp2_with fail
    go_ret
    exact ⟨rfl, hF⟩
end Go.Proofs.Ytbgikpbhjeanoaa
