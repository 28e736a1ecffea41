/- The walk of CsumNumbers. -/
import Derived.Test.YtdkpmbefnfdbkaaRefs
import Derived.Test.YtdkpmbefnfdbkaaAwk
namespace Go.Proofs.Ytdkpmbefnfdbkaa
open Go.RowKit

theorem info16 : (Try.prog.info? 23).map (fun i => (i.zero, i.size, i.bytes)) = some (some (.int .u16 0), 1, 2) := by kernel_rfl
theorem el16 : El Try.prog 26 23 1 2 := .of (z := .int .u16 0) Try.underlying26 info16 rfl (by decide)
theorem W16_one (ns : List Nat) : ∀ u ∈ W16 ns, u.oneCell' = true := by
  intro u hu
  simp only [W16, List.mem_map] at hu
  obtain ⟨x, _, rfl⟩ := hu
  rfl

/-- Pseudo and the reference's answer alike. -/
theorem pseudo_pair (src dst proto : Nat) (length : Int) (h1 : src < 4294967296) (h2 : dst < 4294967296) (h3 : proto < 256) : ∃ p f : Nat, p < 65536 ∧ f < 10 ∧
    (∀ w, Calls Try.prog 35 #[.int .u32 src, .int .u32 dst, .int .u8 proto, .int .i64 length] w fun e w' => e = .returned (.tuple #[.int .u16 p, .int .i64 f]) ∧ Fr [] w w') ∧
    (∀ w, Calls Try.prog 36 #[.int .i64 src, .int .i64 dst, .int .i64 proto, .int .i64 length] w fun e w' => e = .returned (.tuple #[.int .i64 p, .int .i64 f]) ∧ w = w') := by
  by_cases hb : length < 0 ∨ 65535 < length
  · refine ⟨0, 2, by decide, by decide, fun w => (pseudo_no src dst proto length w hb).mono ?_, fun w => rpseudo_no src dst proto length w hb⟩
    rintro e w' ⟨rfl, rfl⟩
    exact ⟨rfl, Fr.refl _ _⟩
  · obtain ⟨n, rfl⟩ := Int.eq_ofNat_of_zero_le (show 0 ≤ length by omega)
    have h4 : n < 65536 := by omega
    exact ⟨psd src dst proto n, 0, by have := fold_le (src / 65536 + src % 65536 + dst / 65536 + dst % 65536 + proto + n); unfold psd; omega, by decide, fun w => pseudo_yes src dst proto n w h1 h2 h3 h4, fun w => rpseudo_yes src dst proto n w h1 h2 h3 h4⟩

set_option maxRecDepth 100000 in
set_option maxHeartbeats 4000000 in
theorem numbers_any (A : Option Addr) (n c : Nat) (ns : List Nat) (check old new a b proto : Nat) (length : Int) (w : World) (hl : ns.length = n) (hb : ∀ x ∈ ns, x < 65536) (hrd : Rd w A (W16 ns)) (hnil : A = none → c = 0)
    (h1 : check < 65536) (h2 : old < 65536) (h3 : new < 65536) (h4 : a < 4294967296) (h5 : b < 4294967296) (h6 : proto < 256) :
    Calls Try.prog 11 #[.slice A n c, .int .u16 check, .int .u16 old, .int .u16 new, .int .u32 a, .int .u32 b, .int .u8 proto, .int .i64 length] w fun e w' => e = .returned (.bool true) ∧ Fr [] w w' := by
  by_cases hn : 100000 < n
  · have hd : decide ((100000 : Int) < (n : Int)) = true := by simp; omega
    have hd2 : decide (100000 < n) = true := by simp; omega
    clear hrd hnil hb
    go_enter Try.func11, Try.ntmps11
    go_wp2
    go_ret
    exact ⟨rfl, Fr.refl _ _⟩
  · have hd : decide ((100000 : Int) < (n : Int)) = false := by simp; omega
    have hd2 : decide (100000 < n) = false := by simp; omega
    have Hl := Lib.hid hl
    have HB := Lib.hid hb
    obtain ⟨p, f, hp, hf, hP1, hP2⟩ := pseudo_pair a b proto length h4 h5 h6
    have hF0 : Fr [] w (w.alloc (.cells #[] 23)) := (Fr.refl _ _).alloc _
    obtain ⟨v1, w1, hrun, ho, hg, _⟩ := app_run el16 (w.alloc (.cells #[] 23)) w.heap.size 26 (.slice (some ⟨w.heap.size, 0, none⟩) 0 0) 0 [] (World.ownsRow_lit w #[] 0 (Nat.le_refl _) (Nat.zero_le _) rfl)
      A n c (W16 ns) (by rw [W16_length]; omega) (hrd.fr hF0 (by simp)) (W16_one ns) hnil (by unfold maxLen; omega) (by omega) (by simp)
    have hF : Fr [] w w1 := hF0.trans2 (fr_grown hg) (by simp [Value.ownBlock])
    rw [Nat.zero_add, List.nil_append] at ho
    obtain ⟨A1, c1, rfl, hc1, -, -⟩ := own_slice ho
    have hr1 := Rd.own ho
    have hr0 := hrd.fr hF (by simp)
    have hfs := fold_le ns.sum
    have hJ1 : ∀ W, Fr [] w1 W → Calls Try.prog 20 #[.slice A1 n c1] W fun e w' => e = .returned (.int .u16 (fold ns.sum)) ∧ W = w' := fun W hW => join_any A1 n c1 ns W Hl.out HB.out (hr1.fr hW (by simp)) (by omega)
    have hJ2 : ∀ W, Fr [] w1 W → Calls Try.prog 37 #[.slice A n c] W fun e w' => e = .returned (.int .i64 (fold ns.sum)) ∧ W = w' := fun W hW => rjoin_any A n c ns W Hl.out HB.out (hr0.fr hW (by simp)) (by omega)
    generalize fold ns.sum = s at hfs hJ1 hJ2
    have hU1 := fun W => update_any check old new W h1 h2 h3
    have hU2 := fun W => rupdate_any check old new W h1 h2 h3
    have hul := upd_lt check old new
    generalize upd check old new = u at hU1 hU2 hul
    have hV1 := fun W => update32_any check a b W h1 h4 h5
    have hV2 := fun W => rupdate32_any check a b W h1 h4 h5
    have hvl : upd32 check a b < 65536 := upd_lt _ _ _
    generalize upd32 check a b = v at hV1 hV2 hvl
    have hws : IntKind.i64.wrap (s : Int) = s := i64_nat (by omega)
    have hwu : IntKind.i64.wrap (u : Int) = u := i64_nat (by omega)
    have hwv : IntKind.i64.wrap (v : Int) = v := i64_nat (by omega)
    have hwp : IntKind.i64.wrap (p : Int) = p := i64_nat (by omega)
    have hwa : IntKind.i64.wrap (a : Int) = a := i64_nat (by omega)
    have hwb : IntKind.i64.wrap (b : Int) = b := i64_nat (by omega)
    have hwq : IntKind.i64.wrap (proto : Int) = proto := i64_nat (by omega)
    have hwc : IntKind.i64.wrap (check : Int) = check := i64_nat (by omega)
    have hwo : IntKind.i64.wrap (old : Int) = old := i64_nat (by omega)
    have hwn : IntKind.i64.wrap (new : Int) = new := i64_nat (by omega)
    clear hF0 hg ho hrd hl hb
    go_enter Try.func11, Try.ntmps11
    go_wp2_with (at_builtin; refine wpList_app rfl _ _ _ rfl hrun rfl rfl ?_)
    refine (hP1 w1).mono ?_
    clear hrun
    rintro e w2 ⟨rfl, hF2⟩
    go_wp2_with fail
    refine (hP2 w2).mono ?_
    rintro e w' ⟨rfl, rfl⟩
    go_wp2_with fail
    refine (hJ1 w2 hF2).mono ?_
    rintro e w' ⟨rfl, rfl⟩
    go_wp2_with fail
    refine (hJ2 w2 hF2).mono ?_
    rintro e w' ⟨rfl, rfl⟩
    replace hF := hF.trans hF2
    replace hr1 := hr1.fr hF2 (by simp)
    replace hr0 := hr0.fr hF2 (by simp)
    clear hJ1 hJ2 hP1 hP2 hF2
    go_wp2_with fail
    refine (hU1 w2).mono ?_
    rintro e w3 ⟨rfl, hF3⟩
    go_wp2_with fail
    refine (hU2 w3).mono ?_
    rintro e w' ⟨rfl, rfl⟩
    replace hF := hF.trans hF3
    replace hr1 := hr1.fr hF3 (by simp)
    replace hr0 := hr0.fr hF3 (by simp)
    clear hU1 hU2 hF3
    go_wp2_with fail
    refine (hV1 w3).mono ?_
    rintro e w4 ⟨rfl, hF4⟩
    go_wp2_with fail
    refine (hV2 w4).mono ?_
    rintro e w' ⟨rfl, rfl⟩
    replace hF := hF.trans hF4
    replace hr1 := hr1.fr hF4 (by simp)
    replace hr0 := hr0.fr hF4 (by simp)
    clear hV1 hV2 hF4
    go_wp2_with fail
    go_loopw [97] (fun i wr => ∃ k : Nat, k ≤ n ∧ i = .int .i64 k ∧ SameW w4 wr) (fun i _ => n - (intOf i).toNat)
    case atStart => exact ⟨0, Nat.zero_le _, rfl, 0, rfl⟩
    case round =>
      obtain ⟨k, hk, rfl, nq, rfl⟩ := hrel
      by_cases hlt : k < n
      · have hkx : k < ns.length := by have := Hl.out; omega
        obtain ⟨b1, o1, rfl⟩ := rd_addr hr1 (by rw [W16_length]; omega)
        obtain ⟨b2, o2, rfl⟩ := rd_addr hr0 (by rw [W16_length]; omega)
        obtain ⟨x, hx0⟩ : ∃ x, ns[k]? = some x := ⟨_, List.getElem?_eq_getElem hkx⟩
        have hcl1 := rdc hr1 k (.int .u16 x) (by rw [W16_get, hx0]; rfl)
        have hcl2 := rdc hr0 k (.int .u16 x) (by rw [W16_get, hx0]; rfl)
        have hi0 : (0 : Int) ≤ (k : Int) ∧ (k : Int) < (n : Int) := by omega
        clear hr1 hr0 hx0
        go_wp2
        go_quiet (fail)
        go_wp2
        go_roundw
        case rel => exact ⟨k + 1, by omega, by go_num, ⟨_, rfl⟩⟩
        case measure => simp [intOf]; omega
      · obtain rfl : k = n := by omega
        replace hF : Fr [] w (w4.drewN nq) := hF.drewN nq
        clear hr1 hr0
        by_cases hz : check = 0
        · subst hz
          go_wp2_with fail
          refine (never_0 _).mono ?_
          rintro e w' ⟨rfl, rfl⟩
          go_wp2_with fail
          refine (never_0 _).mono ?_
          rintro e w' ⟨rfl, rfl⟩
          go_wp2_with fail
          go_ret
          exact ⟨rfl, hF⟩
        · have hcp : decide ((0 : Int) < (check : Int)) = true := by simp; omega
          have hcp2 : decide (0 < check) = true := by simp; omega
          go_wp2_with fail
          refine (never_n check (by omega) _).mono ?_
          rintro e w' ⟨rfl, rfl⟩
          go_wp2_with fail
          go_ret
          exact ⟨rfl, hF⟩

/-- CsumNumbers returns true. -/
theorem cnumbers_any (A : Option Addr) (n c : Nat) (ns : List Nat) (check old new a b proto : Nat) (length : Int) (w : World) (hl : ns.length = n) (hb : ∀ x ∈ ns, x < 65536) (hrd : Rd w A (W16 ns)) (hnil : A = none → c = 0)
    (h1 : check < 65536) (h2 : old < 65536) (h3 : new < 65536) (h4 : a < 4294967296) (h5 : b < 4294967296) (h6 : proto < 256) :
    Calls Try.prog 4 #[.slice A n c, .int .u16 check, .int .u16 old, .int .u16 new, .int .u32 a, .int .u32 b, .int .u8 proto, .int .i64 length] w fun e w' => e = .returned (.bool true) ∧ Fr [] w w' := by
  have hN := numbers_any A n c ns check old new a b proto length w hl hb hrd hnil h1 h2 h3 h4 h5 h6
  clear hl hb hrd hnil h1 h2 h3 h4 h5 h6
  go_enter Try.func4, Try.ntmps4
  go_wp2_with fail
  refine hN.mono ?_
  clear hN
  rintro e w1 ⟨rfl, hF⟩
  go_wp2_with fail
  refine (awake_any w1).mono ?_
  rintro e w2 ⟨rfl, hF2⟩
  go_wp2_with fail
  go_ret
  exact ⟨rfl, hF.trans hF2⟩
end Go.Proofs.Ytdkpmbefnfdbkaa
