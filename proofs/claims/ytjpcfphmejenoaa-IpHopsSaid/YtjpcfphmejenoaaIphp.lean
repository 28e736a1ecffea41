/- IpHops. -/
import Derived.Test.YtjpcfphmejenoaaIphm
import Derived.Test.YtjpcfphmejenoaaIpbm
import Derived.StillTailTactics
import Derived.BigQuiet
namespace Go.Proofs.Ytjpcfphmejenoaa
open Go.RowKit
set_option linter.unusedVariables false
set_option maxRecDepth 100000

/-- What holds at the head of the loop. -/
def HopI (w1 : World) (h : Hd) (A : Option Addr) (n c : Nat) (d : List UInt8) (N : Nat) (v : Value) (wr : World) : Prop :=
  ∃ (T : Nat) (A' : Option Addr) (n' c' : Nat) (rest : List UInt8), v = .slice A' n' c' ∧ Rd wr A' (B8 (wrN (hT h T) d ++ rest)) ∧ (wrN (hT h T) d ++ rest).length = n' ∧ n' ≤ c' ∧ n' ≤ N + 9 ∧ T ≤ 20 ∧ BoxH wr w1.heap.size (hT h T) A n c ∧ (∀ ad, A' = some ad → ad.block ≠ w1.heap.size) ∧ Fr [] w1 wr
def hopM (G : Nat) (wr : World) : Nat := match wr.cell? ⟨G, 5, none⟩ with
  | some (.int _ z) => z.toNat
  | _ => 0
theorem hopM_eq {wr : World} {G n c : Nat} {h : Hd} {A : Option Addr} (hB : BoxH wr G h A n c) : hopM G wr = h.ttl := by
  unfold hopM
  rw [hB.c5]
  simp

set_option maxHeartbeats 4000000 in
theorem hops_any (b : List Nat) (wo fa ma : Nat) (df mf : Bool) (A0 : Option Addr) (n0 c0 : Nat) (xs0 : List UInt8) (bh : Nat) (w : World) (s0 : b.length = 12 ∧ (∀ x ∈ b, x < 256) ∧ wo < 256 ∧ fa < 256 ∧ ma < 256 ∧ xs0.length = n0 ∧ Rd w A0 (B8 xs0) ∧ (A0 = none → c0 = 0) ∧ n0 ≤ c0 ∧ c0 ≤ maxLen) (hbh : bh < 256) :
    Calls Try.prog 5 #[SV b wo fa ma df mf A0 n0 c0, .int .u8 bh] w fun e w' => e = .returned (.bool true) ∧ Fr [] w w' := by
  obtain ⟨z, hz⟩ : ∃ z, z = bh % 9 := ⟨_, rfl⟩
  have z1 : (bh : Int).tmod 9 = (z : Int) := by rw [Int.tmod_eq_emod_of_nonneg (by omega)]; omega
  have z9 : z < 9 := by omega
  clear hz
  obtain ⟨hb12, hb, hwo, hfa, hma, hl, hrd, hnil, hnc, hcm⟩ := s0
  have hg : ∀ k, b.getD k 0 < 256 := fun k => by
    by_cases h : k < b.length
    · rw [List.getD_eq_getElem?_getD, List.getElem?_eq_getElem h]; exact hb _ (List.getElem_mem h)
    · rw [List.getD_eq_getElem?_getD, List.getElem?_eq_none (by omega)]; decide
  have cM := fun W (hW : Fr [] w W) => made5 b wo fa ma df mf A0 n0 c0 xs0 W hg hwo hfa hma hl (hrd.fr hW (by simp)) hnil hnc (by simp only [maxLen] at hcm; omega)
  unfold SV at cM ⊢
  generalize b.getD 0 0 = b0 at cM ⊢
  generalize b.getD 1 0 = b1 at cM ⊢
  generalize b.getD 2 0 = b2 at cM ⊢
  generalize b.getD 3 0 = b3 at cM ⊢
  generalize b.getD 4 0 = b4 at cM ⊢
  generalize b.getD 5 0 = b5 at cM ⊢
  generalize b.getD 6 0 = b6 at cM ⊢
  generalize b.getD 7 0 = b7 at cM ⊢
  generalize b.getD 8 0 = b8 at cM ⊢
  generalize b.getD 9 0 = b9 at cM ⊢
  generalize b.getD 10 0 = b10 at cM ⊢
  generalize b.getD 11 0 = b11 at cM ⊢
  have cA := fun W => awake5 W
  have CM := Lib.hid cM
  have CA := Lib.hid cA
  clear cM cA hl hrd hnil hg hb hb12 hnc hcm hwo hfa hma
  have hX0 : Blk (w.alloc (.cells #[.int .u8 b0, .int .u8 b1, .int .u8 b2, .int .u8 b3, .int .u8 b4, .int .u8 b5, .int .u8 b6, .int .u8 b7, .int .u8 b8, .int .u8 b9, .int .u8 b10, .int .u8 b11, .int .u8 wo, .int .u8 fa, .int .u8 ma, .bool df, .bool mf, .slice A0 n0 c0] 25)) w.heap.size #[.int .u8 b0, .int .u8 b1, .int .u8 b2, .int .u8 b3, .int .u8 b4, .int .u8 b5, .int .u8 b6, .int .u8 b7, .int .u8 b8, .int .u8 b9, .int .u8 b10, .int .u8 b11, .int .u8 wo, .int .u8 fa, .int .u8 ma, .bool df, .bool mf, .slice A0 n0 c0] 25 := blk_new w _ _ rfl
  have hF0 : Fr [] w (w.alloc (.cells #[.int .u8 b0, .int .u8 b1, .int .u8 b2, .int .u8 b3, .int .u8 b4, .int .u8 b5, .int .u8 b6, .int .u8 b7, .int .u8 b8, .int .u8 b9, .int .u8 b10, .int .u8 b11, .int .u8 wo, .int .u8 fa, .int .u8 ma, .bool df, .bool mf, .slice A0 n0 c0] 25)) := (Fr.refl _ _).alloc _
  have HX0 := Lib.hid hX0
  clear hX0
  go_enter Try.func5, Try.ntmps5
  go_wp2_with fail
  refine (CA.out _).mono ?_
  rintro e wa ⟨rfl, hFa⟩
  have hX1 := HX0.out.fr hFa (by simp)
  have HX1 := Lib.hid hX1
  replace hFa := hF0.trans hFa
  clear hX1 HX0 hF0 CA
  go_wp2_with (refine wpList_load_row rfl 25 _ rfl w.heap.size rfl _ _ _ _ HX1.out Try.underlying25 rfl (by kernel_rfl) ?_)
  refine (CM.out _ hFa).mono ?_
  rintro e w1 ⟨h, A, n, c, d, A2, m, c2, rfl, f, hd, hm80, hlo, hrdo, hniA, hnc, hrdd, hnil2, hmc2, hcm2, hF1⟩
  clear HX1 CM
  replace hF1 := hFa.trans hF1
  clear hFa
  have fo := f.o
  have hn40 : n ≤ 40 := by omega
  have htl := f.b.ttl
  have hpl := f.b.proto
  have FF := Lib.hid f
  obtain ⟨T0, hT0⟩ : ∃ T, T = h.ttl % 21 := ⟨_, rfl⟩
  have t1 : (h.ttl : Int).tmod 21 = (T0 : Int) := by rw [Int.tmod_eq_emod_of_nonneg (by omega)]; omega
  have t2 : (h.ttl : Int) % 21 = (T0 : Int) := by omega
  have T20 : T0 ≤ 20 := by omega
  have HLO := Lib.hid hlo
  have HD := Lib.hid hd
  have HRO := Lib.hid hrdo
  have HRD := Lib.hid hrdd
  have HNA := Lib.hid hniA
  have HN2 := Lib.hid hnil2
  obtain ⟨N, hN⟩ : ∃ N, N = 20 + n + m := ⟨_, rfl⟩
  obtain ⟨S, hS⟩ : ∃ S, S = 20 + n := ⟨_, rfl⟩
  have hNb : N ≤ 140 := by omega
  have hN20 : S ≤ N := by omega
  have hS20 : 20 ≤ S := by omega
  have hNm : Hid (N - S = m) := by show _ = _; omega
  have hSn : Hid (S - 20 = n) := by show _ = _; omega
  have HNN : Hid (20 + h.o.length + d.length = N) := by show _ = _; omega
  have HSS : Hid (20 + h.o.length = S) := by show _ = _; omega
  clear hT0 hlo hd hrdo hrdd hniA hnil2 f hN hS fo
  unfold HV
  go_upto_region 5 with (fail)
  obtain ⟨w2, h2⟩ : ∃ w2, w2 = w1.alloc (.cells #[.int .u8 h.tos, .int .u16 h.id, .bool h.df, .bool h.mf, .int .i64 h.off, .int .u8 (T0 : Nat), .int .u8 h.proto, .int .u32 h.src, .int .u32 h.dst, .slice A n c] 30) := ⟨_, rfl⟩
  have hF2 : Fr [] w1 w2 := by rw [h2]; exact (Fr.refl _ _).alloc _
  have hB2 : BoxH w2 w1.heap.size (hT h T0) A n c := by rw [h2]; exact heap_alloc_new w1 _
  have hE2 : w2.heap[w1.heap.size]? = some (.cells #[.int .u8 h.tos, .int .u16 h.id, .bool h.df, .bool h.mf, .int .i64 h.off, .int .u8 (T0 : Nat), .int .u8 h.proto, .int .u32 h.src, .int .u32 h.dst, .slice A n c] 30 (0, 0)) := hB2
  rw [← h2]
  clear h2
  have hLN : ∀ T, (wrN (hT h T) d).length = N := fun T => by rw [wrN_length]; exact HNN.out
  have cW := write_yes (hT h T0) d A A2 n c m c2 w2 HLO.out (HRO.out.fr hF2 (by simp)) HNA.out HD.out (HRD.out.fr hF2 (by simp)) HN2.out (FF.out.hT (by omega))
  unfold WrYes at cW
  rw [hLN] at cW
  unfold HV hT at cW
  simp only at cW
  have CW := Lib.hid cW
  have HLN := Lib.hid hLN
  have HE2 := Lib.hid hE2
  have HB2 := Lib.hid hB2
  have HF2 := Lib.hid hF2
  have hl12 := lt_of_block hE2
  clear cW hLN hE2 hB2 hF2
  go_wp2_with (refine wpList_load_row rfl 30 _ rfl (w1.heap.size) rfl _ _ _ _ HE2.out Try.underlying30 rfl (by kernel_rfl) ?_)
  refine CW.out.mono ?_
  rintro e w3 ⟨g, cb, rfl, o2, hF3⟩
  have hlg := (o2.lt g rfl).1
  obtain ⟨v4, w4, hr4, o4, hg4, _⟩ := zapp_run (P := Try.prog) (t := 23) (e := 5) (bytes := 1) (ti := 3) (k := .i64) (z := .int .u8 0) Try.underlying23 (by kernel_rfl) rfl rfl Try.underlying3 w3 w2.heap.size 23 (.slice (some ⟨g, 0, none⟩) N cb) N _ o2 z (by unfold maxLen; omega) (by omega) hF3.size
  obtain ⟨A4, c4, rfl, hnc4, hcm4, hA4⟩ := own_slice o4
  rw [← app_u8 (t := 23) (e := 5) (ti := 3) (t8 := 5) (k := .i64) (k8 := .u8) Try.underlying23 Try.underlying3 Try.underlying5 23 (some ⟨g, 0, none⟩) N cb z .u8 w3] at hr4
  have hF4 := fr_grown hg4
  have hB4 := (HB2.out.fr hF3 (by simp)).fr hF4 (by simp [Value.ownBlock]; omega)
  have hF14 := (HF2.out.trans hF3).trans2 hF4 (by simp [Value.ownBlock]; omega)
  rw [rep8] at o4
  have hr4' : Rd w4 A4 (B8 (wrN (hT h T0) d ++ List.replicate z 0)) := by rw [B8_append]; exact Rd.own o4
  have hbl : ∀ ad, A4 = some ad → ad.block ≠ w1.heap.size := fun ad e => by have := (o4.lt ad.block (hA4 ad e)).1; omega
  have hI0 : HopI w1 h A n c d N (.slice A4 (N + z) c4) w4 := ⟨T0, A4, N + z, c4, List.replicate z 0, rfl, hr4', by rw [List.length_append, HLN.out, List.length_replicate], hnc4, by omega, T20, hB4, hbl, hF14⟩
  have HI0 := Lib.hid hI0
  clear hI0 hr4' hbl hF14 hB4 hF4 o4 hA4 hg4 hF3 o2 HB2 HE2 HF2 CW t1 t2 hnc4 hcm4 hlg
  go_wp2_with (at_builtin; refine wpList_app rfl _ _ _ rfl hr4 rfl rfl ?_)
  clear hr4 z1
  go_loopw [7] (fun v ws => HopI w1 h A n c d N v ws) (fun _ ws => hopM w1.heap.size ws)
  case atStart => exact HI0.out
  case round =>
    obtain ⟨T, A', n', c', rest, rfl, hr, hl, hnc', hn9, hT20, hB, hbl, hF⟩ := hrel
    clear HI0
    have fT : Fits (hT h T) d.length := by rw [HD.out]; exact FF.out.hT (by omega)
    have gT := good_wr fT rest
    have c5 : wr.cell? ⟨w1.heap.size, 5, none⟩ = some (.int .u8 (T : Nat)) := hB.c5
    by_cases hgo : 2 ≤ T
    · obtain ⟨U, hU⟩ : ∃ U, U = T - 1 := ⟨_, rfl⟩
      have hxl : (wrN (hT h T) d ++ rest).take (20 + (hT h T).o.length + d.length) = wrN (hT h T) d := by
        rw [← wrN_length (hT h T) d]; exact List.take_left
      have hxd : (wrN (hT h T) d).drop (20 + (hT h T).o.length) = d := wr_drop _ _
      have cH := hop_yes A' n' c' (wrN (hT h T) d ++ rest) wr hl hr hnc' (by omega) gT.1 (by rw [gT.2.1]; show 2 ≤ T; omega)
      rw [gT.2.1, gT.2.2.1, gT.2.2.2, hxl, hxd, hop_hT, ← hU] at cH
      unfold WrYes at cH
      rw [HLN.out] at cH
      have fU : Fits (hT h U) d.length := by rw [HD.out]; exact FF.out.hT (by omega)
      have gU := good_wr fU []
      rw [List.append_nil] at gU
      have hck := hop_check (t := T) FF.out (by omega) (by omega)
      rw [← hU, ← HD.out, HNN.out] at hck
      have x10 := wr_get10 (hT h T) d rest
      have x11 := wr_get11 (hT h T) d rest
      have y10 := wr_10 (hT h U) d
      have y11 := wr_11 (hT h U) d
      rw [show 20 + (hT h T).o.length + d.length = N from HNN.out] at x10 x11
      rw [show 20 + (hT h U).o.length + d.length = N from HNN.out] at y10 y11
      have hCl := ckN_lt (hT h T) N
      have hDl := ckN_lt (hT h U) N
      generalize ckN (hT h T) N = C at hck x10 x11 hCl
      generalize ckN (hT h U) N = D at hck y10 y11 hDl
      have eC := hi_lo hCl
      have eD := hi_lo hDl
      generalize hi8 C = C1 at x10 eC
      generalize lo8 C = C2 at x11 eC
      generalize hi8 D = D1 at y10 eD
      generalize lo8 D = D2 at y11 eD
      have rU : ∀ g' c' W, Rd W (some ⟨g', 0, none⟩) (B8 (wrN (hT h U) d)) → N ≤ c' → Calls Try.prog 15 #[.slice (some ⟨g', 0, none⟩) N c'] W (RdYes (wrN (hT h U) d) W) := fun g' c' W hr hc => read_yes (some ⟨g', 0, none⟩) N c' (wrN (hT h U) d) W (HLN.out U) hr hc (by omega) gU.1
      unfold RdYes at rU
      rw [gU.2.1, gU.2.2.1, gU.2.2.2, show 20 + (hT h U).o.length + d.length = N from HNN.out, show 20 + (hT h U).o.length = S from HSS.out, hSn.out] at rU
      have hdr : (wrN (hT h U) d).drop S = d := by have := wr_drop (hT h U) d; rwa [show 20 + (hT h U).o.length = S from HSS.out] at this
      have hLU := HLN.out U
      have relU : ∀ g' c' W, Rd W (some ⟨g', 0, none⟩) (B8 (wrN (hT h U) d)) → N ≤ c' → BoxH W w1.heap.size (hT h U) A n c → g' ≠ w1.heap.size → Fr [] w1 W → HopI w1 h A n c d N (.slice (some ⟨g', 0, none⟩) N c') W := fun g' c' W h1 h2 h3 h4 h5 => ⟨U, _, N, c', [], rfl, by rw [List.append_nil]; exact h1, by rw [List.append_nil]; exact HLN.out U, h2, by omega, by omega, h3, fun ad e => by injection e with e; subst e; exact h4, h5⟩
      have hmT : hopM w1.heap.size wr = T := hopM_eq hB
      generalize wrN (hT h U) d = L2 at cH rU hdr hLU y10 y11 relU
      obtain ⟨bA, oA, rfl⟩ := rd_addr8 hr (by rw [hl]; have : N ≤ n' := by rw [← hl, List.length_append, HLN.out]; omega
                                              omega)
      have hNn : N ≤ n' := by rw [← hl, List.length_append, HLN.out]; omega
      have hbA : bA ≠ w1.heap.size := hbl _ rfl
      have X10 := Lib.hid x10
      have X11 := Lib.hid x11
      obtain ⟨W0, hW0⟩ : ∃ W0, W0 = 256 * U + h.proto := ⟨_, rfl⟩
      obtain ⟨V0, hV0⟩ : ∃ V0, V0 = W0 + 256 := ⟨_, rfl⟩
      have hVl : V0 < 65536 := by omega
      have cU := fun W => update_any C V0 W0 W hCl hVl (by omega)
      rw [hV0, hW0, hck, ← hW0, ← hV0] at cU
      have wt1 : IntKind.u8.wrap ((T : Int) - 1) = (U : Int) := by rw [u8_in (by omega) (by omega)]; omega
      have wt2 : (T : Int) - 1 = (U : Int) := by omega
      have p1 : IntKind.u16.wrap (U : Int) = (U : Int) := u16_in (by omega) (by omega)
      have p2 : IntKind.u16.wrap ((U : Int) * 256) = (U : Int) * 256 := u16_in (by omega) (by omega)
      have p3 : IntKind.u16.wrap (h.proto : Int) = (h.proto : Int) := u16_in (by omega) (by omega)
      have p4 : bits BinOp.or IntKind.u16 ((U : Int) * 256) (h.proto : Int) = (W0 : Int) := by rw [orN U h.proto (by omega) hpl, hW0]
      have p5 : IntKind.u16.wrap ((W0 : Int) + 256) = (V0 : Int) := by rw [u16_in (by omega) (by omega)]; omega
      have p6 : (W0 : Int) + 256 = (V0 : Int) := by omega
      have P := Lib.hid (And.intro p1 (And.intro p2 (And.intro p3 (And.intro p4 (And.intro p5 p6)))))
      have hC1 := C1.toNat_lt
      have hC2 := C2.toNat_lt
      have hD1 := D1.toNat_lt
      have hD2 := D2.toNat_lt
      have r1 : IntKind.u16.wrap (C1.toNat : Int) = (C1.toNat : Int) := u16_in (by omega) (by omega)
      have r2 : IntKind.u16.wrap ((C1.toNat : Int) * 256) = (C1.toNat : Int) * 256 := u16_in (by omega) (by omega)
      have r3 : IntKind.u16.wrap (C2.toNat : Int) = (C2.toNat : Int) := u16_in (by omega) (by omega)
      have r4 : bits BinOp.or IntKind.u16 ((C1.toNat : Int) * 256) (C2.toNat : Int) = (C : Int) := by rw [or16 C1 C2 rfl rfl, eC]
      have q1 : IntKind.u16.wrap (D1.toNat : Int) = (D1.toNat : Int) := u16_in (by omega) (by omega)
      have q2 : IntKind.u16.wrap ((D1.toNat : Int) * 256) = (D1.toNat : Int) * 256 := u16_in (by omega) (by omega)
      have q3 : IntKind.u16.wrap (D2.toNat : Int) = (D2.toNat : Int) := u16_in (by omega) (by omega)
      have q4 : bits BinOp.or IntKind.u16 ((D1.toNat : Int) * 256) (D2.toNat : Int) = (D : Int) := by rw [or16 D1 D2 rfl rfl, eD]
      have R := Lib.hid (And.intro r1 (And.intro r2 (And.intro r3 r4)))
      have Q := Lib.hid (And.intro q1 (And.intro q2 (And.intro q3 q4)))
      have hU20 : U ≤ 19 := by omega
      have hUT : U < T := by omega
      have HMT := Lib.hid hmT
      have CH := Lib.hid cH
      have CR := Lib.hid rU
      have CU := Lib.hid cU
      have RU := Lib.hid relU
      have HDR := Lib.hid hdr
      have HLU := Lib.hid hLU
      have HB := Lib.hid hB
      have HF := Lib.hid hF
      have HR := Lib.hid hr
      have Y10 := Lib.hid y10
      have Y11 := Lib.hid y11
      have WT := Lib.hid (And.intro wt1 wt2)
      clear hU hxl hxd cH fU gU hck x10 x11 y10 y11 eC eD rU hdr hLU relU hmT hW0 hV0 cU p1 p2 p3 p4 p5 p6 r1 r2 r3 r4 q1 q2 q3 q4 wt1 wt2 hB hF hr hl hbl fT gT
      have d1 : (1 : Int) < (T : Int) := by omega
      have d2 : 1 < T := by omega
      go_wp2_with fail
      refine CH.out.mono ?_
      rintro e w5 ⟨g5, c5', rfl, o5, hF5⟩
      have hcc := own_cc o5
      have hlg := (o5.lt g5 rfl).1
      have hlb := lt_of_block HB.out
      have hg5 : g5 ≠ w1.heap.size := by omega
      have hB5 := HB.out.fr hF5 (by simp)
      replace c5 : w5.cell? ⟨w1.heap.size, 5, none⟩ = some (.int .u8 (T : Nat)) := hB5.c5
      have f5 := hB5.fz 5
      obtain ⟨wt1, wt2⟩ := WT.out
      have O5 := Lib.hid o5
      have HF5 := Lib.hid hF5
      have HB5 := Lib.hid hB5
      clear o5 hF5 hB5 CH WT
      go_upto_region 12 with (fail)
      obtain ⟨w6, h6⟩ : ∃ w6, w6 = w5.setCell ⟨w1.heap.size, 5, none⟩ (.int .u8 (U : Nat)) := ⟨_, rfl⟩
      have hF56 : Fr [w1.heap.size] w5 w6 := by rw [h6]; exact (Fr.refl _ _).setCell (.inl (by simp)) _
      have hB6 : BoxH w6 w1.heap.size (hT h U) A n c := by rw [h6]; exact HB5.out.set5 U
      rw [← h6]
      clear h6 c5 f5 wt1 wt2
      have o6 := hF56.own O5.out (fun k hk => by have := (O5.out.lt k hk).1; simp; omega)
      have hF16 : Fr [] w1 w6 := (HF.out.trans HF5.out).trans2 hF56 (by simp)
      have hr6 := (HR.out.fr HF5.out (by simp)).fr hF56 (by intro ad e; injection e with e; subst e; simpa using hbA)
      have cR := CR.out g5 c5' w6 (Rd.own o6) hcc.1
      unfold HV hT at cR
      simp only at cR
      have CR' := Lib.hid cR
      have O6 := Lib.hid o6
      have HF16 := Lib.hid hF16
      have HR6 := Lib.hid hr6
      have HB6 := Lib.hid hB6
      clear cR o6 hF16 hF56 hr6 hB6 CR HR HB HB5 O5 HF5 HF
      go_wp2_with fail
      refine CR'.out.mono ?_
      rintro e w7 ⟨A7, c7, rfl, o7, hF7⟩
      have hBy : BoxH (w7.alloc (.cells #[.int .u8 h.tos, .int .u16 h.id, .bool h.df, .bool h.mf, .int .i64 h.off, .int .u8 (U : Nat), .int .u8 h.proto, .int .u32 h.src, .int .u32 h.dst, .slice A7 n c7] 30)) w7.heap.size (hT h U) A7 n c7 := heap_alloc_new w7 _
      have hFy : Fr [] w7 (w7.alloc (.cells #[.int .u8 h.tos, .int .u16 h.id, .bool h.df, .bool h.mf, .int .i64 h.off, .int .u8 (U : Nat), .int .u8 h.proto, .int .u32 h.src, .int .u32 h.dst, .slice A7 n c7] 30)) := (Fr.refl _ _).alloc _
      have hF67 := hF7.trans hFy
      have hB8 := HB6.out.fr hF67 (by simp)
      have hF18 := HF16.out.trans hF67
      have cM := same5 (hT h U) A7 A n n c7 c (w7.alloc (.cells #[.int .u8 h.tos, .int .u16 h.id, .bool h.df, .bool h.mf, .int .i64 h.off, .int .u8 (U : Nat), .int .u8 h.proto, .int .u32 h.src, .int .u32 h.dst, .slice A7 n c7] 30)) HLO.out HLO.out (Rd.own (hFy.own o7 (by simp))) (HRO.out.fr hF18 (by simp)) (by omega)
      unfold HV hT at cM
      simp only at cM
      have CM := Lib.hid cM
      have O8 := Lib.hid (hF67.own O6.out (by simp))
      have HF18 := Lib.hid hF18
      have HR8 := Lib.hid (HR6.out.fr hF67 (by simp))
      have HB8 := Lib.hid hB8
      have e0 := hB8.c0
      have e1 := hB8.c1
      have e2 := hB8.c2
      have e3 := hB8.c3
      have e4 := hB8.c4
      have e5 := hB8.c5
      have e6 := hB8.c6
      have e7 := hB8.c7
      have e8 := hB8.c8
      have e9 := hB8.c9
      clear cM hF18 hB8 hBy hFy hF7 hF67 o7 CR' O6 HF16 HR6 HB6
      unfold hT at e0 e1 e2 e3 e4 e5 e6 e7 e8
      simp only at e0 e1 e2 e3 e4 e5 e6 e7 e8
      go_wp2_with fail
      refine CM.out.mono ?_
      rintro e w9 ⟨rfl, hF9⟩
      clear CM e0 e1 e2 e3 e4 e5 e6 e7 e8 e9
      obtain ⟨E, hE⟩ : ∃ E : Option Addr, E = if c5' = S then some ⟨g5, 0, none⟩ else some ⟨g5, S, none⟩ := ⟨_, rfl⟩
      have hif := hE.symm
      have o9 := hF9.own O8.out (by simp)
      have hrE : Rd w9 E (B8 d) := by
        rw [hE]
        have := rd_from (k := S) (c := c5') (Rd.own o9) (by rw [HLU.out]; omega)
        rw [HDR.out] at this
        exact this
      have hF19 := HF18.out.trans hF9
      have cS := same_any E A2 (N - S) m (c5' - S) c2 d d w9 (by rw [HD.out, hNm.out]) HD.out hrE (HRD.out.fr hF19 (by simp)) (by omega)
      unfold EqP at cS
      simp only [decide_true] at cS
      have CS := Lib.hid cS
      have O9 := Lib.hid o9
      have HF19 := Lib.hid hF19
      have HR9 := Lib.hid (HR8.out.fr hF9 (by simp))
      have HB9 := Lib.hid (HB8.out.fr hF9 (by simp))
      have b1 : (0 : Int) ≤ (S : Int) ∧ (S : Int) ≤ (N : Int) ∧ (N : Int) ≤ (c5' : Int) := by omega
      have b2 : (S : Int) ≤ (N : Int) := by omega
      have b3 : (N : Int) ≤ (c5' : Int) := by omega
      clear cS o9 hrE hF19 hE hF9 O8 HF18 HR8 HB8
      go_wp2_with fail
      refine CS.out.mono ?_
      rintro e wA ⟨rfl, hSA⟩
      have hBA := HB9.out.fr hSA.fr (by simp)
      have e5 : wA.cell? ⟨w1.heap.size, 5, none⟩ = some (.int .u8 (U : Nat)) := hBA.c5
      have e6 : wA.cell? ⟨w1.heap.size, 6, none⟩ = some (.int .u8 h.proto) := hBA.c6
      have OA := Lib.hid (hSA.fr.own O9.out (by simp))
      have HFA := Lib.hid (HF19.out.trans hSA.fr)
      have HRA := Lib.hid (HR9.out.fr hSA.fr (by simp))
      have HBA := Lib.hid hBA
      obtain ⟨p1, p2, p3, p4, p5, p6⟩ := P.out
      clear hBA hSA CS O9 HF19 HR9 HB9 hif b1 b2 b3 P
      go_wp2_with fail
      obtain ⟨r1, r2, r3, r4⟩ := R.out
      clear e5 e6 R p1 p2 p3 p4
      have hFd : Fr [] wA wA.drew := (Fr.refl [] wA).drew
      have HRd := Lib.hid (HRA.out.fr hFd (by simp))
      have k10 : wA.drew.cell? ⟨bA, oA + 10, none⟩ = some (.int .u8 C1.toNat) := rdj HRd.out 10 C1 X10.out
      have k11 : wA.drew.cell? ⟨bA, oA + 11, none⟩ = some (.int .u8 C2.toNat) := rdj HRd.out 11 C2 X11.out
      have ODd := Lib.hid (hFd.own OA.out (by simp))
      have HFd := Lib.hid (HFA.out.trans hFd)
      have HBd := Lib.hid (HBA.out.fr hFd (by simp))
      have i10 : (10 : Int) < (n' : Int) := by omega
      have i11 : (11 : Int) < (n' : Int) := by omega
      clear hFd HRA OA HFA HBA
      refine wp_region_still_tail 13 (by kernel_rfl) (by kernel_rfl) ?_
      have e3 : ({ wA with drawn := wA.drawn + 1 } : World) = wA.drew := rfl
      rw [e3]
      clear e3
      generalize wA.drew = wB at k10 k11 HRd ODd HFd HBd ⊢
      simp only [List.take_succ_cons, List.take_zero, List.drop_succ_cons, List.drop_zero]
      repeat still_step
      refine wpStill_nil ?_
      clear k10 k11 i10 i11 r1 r2 r3 r4
      go_wp2_with fail
      refine (CU.out _).mono ?_
      rintro e wC ⟨rfl, hFC⟩
      have oC := hFC.own ODd.out (by simp)
      have k10 : wC.cell? ⟨g5, 10, none⟩ = some (.int .u8 D1.toNat) := own_cell oC (j := 10) (by rw [B8_get, Y10.out]; rfl)
      have k11 : wC.cell? ⟨g5, 11, none⟩ = some (.int .u8 D2.toNat) := own_cell oC (j := 11) (by rw [B8_get, Y11.out]; rfl)
      have i10 : (10 : Int) < (N : Int) := by omega
      have i11 : (11 : Int) < (N : Int) := by omega
      obtain ⟨q1, q2, q3, q4⟩ := Q.out
      have OC := Lib.hid oC
      have HFC := Lib.hid (HFd.out.trans hFC)
      have HBC := Lib.hid (HBd.out.fr hFC (by simp))
      clear oC hFC Q ODd HFd HBd HRd CU p5 p6
      go_wp2_with fail
      go_quiet (fail)
      clear k10 k11 i10 i11 q1 q2 q3 q4
      go_upto_region 18 with (fail)
      obtain ⟨F, nx, hFD⟩ := not16 D hDl
      have nx2 : bits .xor .u16 IntKind.u16.max (D : Int) = (F : Int) := nx
      have nb : ((D : Int) == (F : Int)) = false := by rw [beq_eq_false_iff_ne]; omega
      have nb2 : ¬ (D : Int) = (F : Int) := by omega
      have nb3 : ¬ D = F := by omega
      clear hFD
      go_wp2_with fail
      have hFE : Fr [] wC (wC.drewN nq) := (Fr.refl [] wC).drewN nq
      have hBE := HBC.out.fr hFE (by simp)
      refine ⟨RU.out g5 c5' _ (Rd.own (hFE.own OC.out (by simp))) hcc.1 hBE hg5 (HFC.out.trans hFE), ?_⟩
      rw [HMT.out, hopM_eq hBE]
      exact hUT
    · have cH := hop_ttl A' n' c' (wrN (hT h T) d ++ rest) wr hl hr hnc' (by omega) gT.1 (by rw [gT.2.1]; show T ≤ 1; omega)
      unfold NoP at cH
      have CH := Lib.hid cH
      have HF := Lib.hid hF
      have d1 : ¬ (1 : Int) < (T : Int) := by omega
      have d2 : ¬ 1 < T := by omega
      clear cH hr hl hB hbl hF fT gT
      go_wp2_with fail
      refine CH.out.mono ?_
      rintro e w5 ⟨rfl, hF5⟩
      go_wp2_with fail
      go_ret
      exact ⟨rfl, hF1.trans (HF.out.trans hF5)⟩

end Go.Proofs.Ytjpcfphmejenoaa
