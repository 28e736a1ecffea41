/- Reading one span of a string. -/
import Derived.Test.YtjfadoealhlccaaGreatDoorQry
import Derived.Test.YtjfadoealhlccaaGreatDoorRdp
namespace Go.Proofs.YtjfadoealhlccaaGreatDoor
open Go.RowKit
set_option linter.unusedVariables false
set_option maxRecDepth 100000

def PuP32 (W : World) (s : ByteArray) (e : Ending) (w' : World) : Prop :=
  Fr [] W w' ∧ ((∃ u, Lib.parseUintB 32 s.data.toList = .ok u ∧ u < 4294967296 ∧ e = .returned (.tuple #[.int .u64 u, .nilIface])) ∨ ((∀ u, Lib.parseUintB 32 s.data.toList ≠ .ok u) ∧ ∃ (v : Int) (t : TypeId) (a : Addr), e = .returned (.tuple #[.int .u64 v, .iface t (.pointer (some a))])))
theorem parse32_any (s : ByteArray) (hs : s.size ≤ 281474976710656) (W : World) (hV : VV W) : Calls Tryz.prog 72 #[.string s, .int .i64 10, .int .i64 32] W (PuP32 W s) := by
  cases h : Lib.parseUintB 32 s.data.toList with
  | ok u =>
    have hu := Lib.parseUintB_le h
    refine (show Calls Tryz.prog 72 #[.string s, .int .i64 10, .int .i64 32] W _ from Any.strconv_ParseUint_10_at32_ok laysPu14 s (by omega) u h W).mono ?_
    rintro e w' ⟨rfl, hw⟩
    refine ⟨?_, .inl ⟨u, h, by omega, rfl⟩⟩
    rcases hw with rfl | rfl
    · exact Fr.refl _ _
    · exact Fr.ofBelow (Lib.bytesWorld_below _ _ _)
  | «syntax» =>
    obtain ⟨te, pe, hc⟩ := hV.es
    refine (show Calls Tryz.prog 72 #[.string s, .int .i64 10, .int .i64 32] W _ from Any.strconv_ParseUint_10_at32_syntax laysPu14 s hs h _ W hc (.inr ⟨te, pe, rfl⟩)).mono ?_
    rintro e w' ⟨N, rfl, -, -, hb⟩
    exact ⟨Fr.ofBelow hb, .inr ⟨fun u hu => (by rw [h] at hu; cases hu), _, _, _, rfl⟩⟩
  | range =>
    obtain ⟨te, pe, hc⟩ := hV.er
    refine (show Calls Tryz.prog 72 #[.string s, .int .i64 10, .int .i64 32] W _ from Any.strconv_ParseUint_10_at32_range laysPu14 s hs h _ W hc (.inr ⟨te, pe, rfl⟩)).mono ?_
    rintro e w' ⟨N, rfl, -, -, hb⟩
    exact ⟨Fr.ofBelow hb, .inr ⟨fun u hu => (by rw [h] at hu; cases hu), _, _, _, rfl⟩⟩

def rdcomb (a b : List UInt8) : Option Sp :=
  match Lib.parseUintB 32 a with
  | .ok u => match Lib.parseUintB 32 b with
    | .ok v => some (u, v)
    | _ => none
  | _ => none
theorem rdcomb_yes {a b : List UInt8} {u v : Nat} (h1 : Lib.parseUintB 32 a = .ok u) (h2 : Lib.parseUintB 32 b = .ok v) : rdcomb a b = some (u, v) := by simp [rdcomb, h1, h2]
theorem rdcomb_no1 {a b : List UInt8} (h1 : ∀ u, Lib.parseUintB 32 a ≠ .ok u) : rdcomb a b = none := by
  unfold rdcomb
  cases h : Lib.parseUintB 32 a with
  | ok u => exact absurd h (h1 u)
  | _ => rfl
theorem rdcomb_no2 {a b : List UInt8} (h1 : ∀ u, Lib.parseUintB 32 b ≠ .ok u) : rdcomb a b = none := by
  unfold rdcomb
  cases h : Lib.parseUintB 32 a with
  | ok u =>
    cases h2 : Lib.parseUintB 32 b with
    | ok v => exact absurd h2 (h1 v)
    | _ => rfl
  | _ => rfl
/-- The span that a string is read as. -/
def rdsp (l : List UInt8) : Option Sp := if 45 ∈ l then rdcomb (l.takeWhile (· != 45)) ((l.dropWhile (· != 45)).drop 1) else rdcomb l l
theorem rdsp_two {x y : List UInt8} (h : (45 : UInt8) ∉ x) : rdsp (x ++ 45 :: y) = rdcomb x y := by
  have h1 : ∀ x : List UInt8, (45 : UInt8) ∉ x → (x ++ 45 :: y).takeWhile (· != 45) = x ∧ (x ++ 45 :: y).dropWhile (· != 45) = 45 :: y := by
    intro x
    induction x with
    | nil => intro _; simp
    | cons c x ih =>
      intro hx
      simp only [List.mem_cons, not_or] at hx
      have := ih hx.2
      have hc : (c != 45) = true := by simp; exact fun e => hx.1 e.symm
      simp [hc, this.1, this.2]
  unfold rdsp
  rw [if_pos (by simp), (h1 x h).1, (h1 x h).2]
  rfl
theorem rdsp_one {l : List UInt8} (h : (45 : UInt8) ∉ l) : rdsp l = rdcomb l l := if_neg h
def RsP (W : World) (l : List UInt8) (e : Ending) (w' : World) : Prop :=
  Fr [] W w' ∧ ((∃ u v, rdsp l = some (u, v) ∧ u < 4294967296 ∧ v < 4294967296 ∧ e = .returned (.tuple #[.agg #[.int .u32 u, .int .u32 v], .bool true])) ∨ (rdsp l = none ∧ e = .returned (.tuple #[.agg #[.int .u32 0, .int .u32 0], .bool false])))
set_option maxHeartbeats 4000000 in
theorem readSpan_any (s : ByteArray) (hs : s.size ≤ 281474976710656) (W : World) (hV : VV W) : Calls Tryz.prog 55 #[.string s] W (RsP W s.data.toList) := by
  have hF0 : Fr [] W (W.alloc (.cells #[.int .u32 0, .int .u32 0] 40)) := (Fr.refl _ _).alloc _
  have hb0 := blk_new W #[.int .u32 0, .int .u32 0] 40
  go_enter Tryz.func55, Tryz.ntmps55
  go_wp2_with fail
  refine (cut_any s 45 hs _).mono ?_
  rintro e w1 ⟨hF1, x, y, b, hS, rfl⟩
  have hSL := hS.len
  have hsx : (⟨x.toArray⟩ : ByteArray).size ≤ 281474976710656 := by rw [size_of]; rw [size_of] at hs; exact Nat.le_trans hSL.1 hs
  have hsy : (⟨y.toArray⟩ : ByteArray).size ≤ 281474976710656 := by rw [size_of]; rw [size_of] at hs; exact Nat.le_trans hSL.2 hs
  have HSX := Lib.hid hsx
  have hV1 := (hV.fr hF0).fr hF1
  have hb1 := hF1.blk hb0 (by simp)
  replace hF1 := hF0.trans hF1
  clear hsx hF0 hb0 hSL
  have hh : ∃ Y : List UInt8, (⟨Y.toArray⟩ : ByteArray).size ≤ 281474976710656 ∧ rdsp s.data.toList = rdcomb x Y ∧ ((b = true ∧ Y = y) ∨ (b = false ∧ Y = x)) := by
    rcases hS with ⟨hb, hl, hx⟩ | ⟨hb, hx, hxe, rfl⟩
    · exact ⟨y, hsy, by rw [hl]; exact rdsp_two hx, .inl ⟨hb, rfl⟩⟩
    · exact ⟨x, HSX.out, by rw [hxe]; exact rdsp_one hx, .inr ⟨hb, rfl⟩⟩
  obtain ⟨Y, hY1, hY2, hY3⟩ := hh
  have HSY := Lib.hid hY1
  have HK := Lib.hid hY2
  clear hY1 hY2 hS hsy hs
  rcases hY3 with ⟨rfl, rfl⟩ | ⟨rfl, rfl⟩
  all_goals
    go_wp2_with fail
    refine (parse32_any _ HSX.out _ hV1).mono ?_
    rintro e w2 ⟨hF2, ⟨u, h1, hu, rfl⟩ | ⟨h1, ev, et, ea, rfl⟩⟩
    · have hV2 := hV1.fr hF2
      have hb2 := hF2.blk hb1 (by simp)
      replace hF1 := hF1.trans hF2
      have H1 := Lib.hid h1
      clear h1 hF2 hb1
      go_wp2_with fail
      refine (parse32_any _ HSY.out _ hV2).mono ?_
      rintro e w3 ⟨hF3, ⟨v, h2, hv, rfl⟩ | ⟨h2, ev, et, ea, rfl⟩⟩
      · have hb3 := hF3.blk hb2 (by simp)
        have HBB := Lib.hid hb3
        replace hF1 := hF1.trans hF3
        have H2 := Lib.hid h2
        have wu : IntKind.u32.wrap (u : Int) = u := by rw [IntKind.wrap_u32]; omega
        have wv : IntKind.u32.wrap (v : Int) = v := by rw [IntKind.wrap_u32]; omega
        clear h2 hF3 hb2 hb3
        have z0 := blk_cell HBB.out (j := 0) rfl
        have z1 := blk_cell HBB.out (j := 1) rfl
        have z2 := blk_fz (j := 0) HBB.out
        have z3 := blk_fz (j := 1) HBB.out
        go_wp2_with fail
        (try simp only [Exit.inBlock, Exit.then])
        have ⟨e0, e1⟩ := two_set HBB.out (.int .u32 u) (.int .u32 v)
        refine bodyPost_ret (v := .tuple #[.agg #[.int .u32 u, .int .u32 v], .bool true]) ?_ rfl ⟨(hF1.setCell (.inr (Nat.le_refl _)) _).setCell (.inr (Nat.le_refl _)) _, .inl ⟨u, v, by rw [HK.out]; exact rdcomb_yes H1.out H2.out, hu, hv, rfl⟩⟩
        rw [results_cell_tmp rfl]
        generalize (World.setCell _ _ _) = wz at e0 e1 ⊢
        go_simp
      · have hb3 := hF3.blk hb2 (by simp)
        have HBB := Lib.hid hb3
        replace hF1 := hF1.trans hF3
        have H2 := Lib.hid h2
        clear h2 hF3 hb2 hb3
        have z0 := blk_cell HBB.out (j := 0) rfl
        have z1 := blk_cell HBB.out (j := 1) rfl
        have z2 := blk_fz (j := 0) HBB.out
        have z3 := blk_fz (j := 1) HBB.out
        go_wp2_with fail
        (try simp only [Exit.inBlock, Exit.then])
        have ⟨e0, e1⟩ := two_set HBB.out (.int .u32 0) (.int .u32 0)
        refine bodyPost_ret (v := .tuple #[.agg #[.int .u32 0, .int .u32 0], .bool false]) ?_ rfl ⟨(hF1.setCell (.inr (Nat.le_refl _)) _).setCell (.inr (Nat.le_refl _)) _, .inr ⟨by rw [HK.out]; exact rdcomb_no2 H2.out, rfl⟩⟩
        rw [results_cell_tmp rfl]
        generalize (World.setCell _ _ _) = wz at e0 e1 ⊢
        go_simp
    · have hb2 := hF2.blk hb1 (by simp)
      have HBB := Lib.hid hb2
      replace hF1 := hF1.trans hF2
      have H1 := Lib.hid h1
      clear h1 hF2 hb1 hb2
      have z0 := blk_cell HBB.out (j := 0) rfl
      have z1 := blk_cell HBB.out (j := 1) rfl
      have z2 := blk_fz (j := 0) HBB.out
      have z3 := blk_fz (j := 1) HBB.out
      go_wp2_with fail
      (try simp only [Exit.inBlock, Exit.then])
      have ⟨e0, e1⟩ := two_set HBB.out (.int .u32 0) (.int .u32 0)
      refine bodyPost_ret (v := .tuple #[.agg #[.int .u32 0, .int .u32 0], .bool false]) ?_ rfl ⟨(hF1.setCell (.inr (Nat.le_refl _)) _).setCell (.inr (Nat.le_refl _)) _, .inr ⟨by rw [HK.out]; exact rdcomb_no1 H1.out, rfl⟩⟩
      rw [results_cell_tmp rfl]
      generalize (World.setCell _ _ _) = wz at e0 e1 ⊢
      go_simp
end Go.Proofs.YtjfadoealhlccaaGreatDoor
