/- The chapter's examples. -/
import Derived.Test.YtjfadoealhlccaaGreatDoorAwl
namespace Go.Proofs.YtjfadoealhlccaaGreatDoor
open Go.RowKit
set_option linter.unusedVariables false
set_option maxRecDepth 100000
set_option maxHeartbeats 8000000 in
theorem awake_any (w0 : World) (hV : VV w0) : Calls Tryz.prog 8 #[] w0 fun e w' => e = .returned (.bool true) ∧ Fr [] w0 w' := by
  have HV := Lib.hid hV
  have hF0 := Fr.refl [] w0
  clear hV
  go_enter Tryz.func8, Tryz.ntmps8
  go_wp2_with fail
  refine (spL [(5, 7), (1, 2), (3, 3), (7, 9)] #[.int .u32 5, .int .u32 7, .int .u32 1, .int .u32 2, .int .u32 3, .int .u32 3, .int .u32 7, .int .u32 9] 4 8 _ rfl rfl (by decide) rfl (by decide)).mono ?_
  rintro e w1 ⟨p1, rfl, hp1, op1, G⟩
  replace hF0 := hF0.trans G
  clear G
  have Hp1 := Lib.hid hp1
  have Op1 := Lib.hid op1
  clear hp1 op1
  go_wp2_with fail
  refine (ofL p1 _ Op1.out Hp1.out).mono ?_
  rintro e w2 ⟨a, rfl, ha, oa, G⟩
  replace Op1 := Lib.hid (Op1.out.fr G)
  replace hF0 := hF0.trans G
  clear G
  have Ha := Lib.hid ha
  have Oa := Lib.hid oa
  clear ha oa
  clear Op1 Hp1
  go_wp2_with fail
  refine (countL a _ Oa.out Ha.out).mono ?_
  rintro e w3 ⟨rfl, G⟩
  replace Oa := Lib.hid (Oa.out.fr G)
  replace hF0 := hF0.trans G
  clear G
  go_wp2_with fail
  refine (spL [(1, 3)] #[.int .u32 1, .int .u32 3] 1 2 _ rfl rfl (by decide) rfl (by decide)).mono ?_
  rintro e w4 ⟨p2, rfl, hp2, op2, G⟩
  replace Oa := Lib.hid (Oa.out.fr G)
  replace hF0 := hF0.trans G
  clear G
  have Hp2 := Lib.hid hp2
  have Op2 := Lib.hid op2
  clear hp2 op2
  go_wp2_with fail
  refine (spL [(4, 6)] #[.int .u32 4, .int .u32 6] 1 2 _ rfl rfl (by decide) rfl (by decide)).mono ?_
  rintro e w5 ⟨p3, rfl, hp3, op3, G⟩
  replace Oa := Lib.hid (Oa.out.fr G)
  replace Op2 := Lib.hid (Op2.out.fr G)
  replace hF0 := hF0.trans G
  clear G
  have Hp3 := Lib.hid hp3
  have Op3 := Lib.hid op3
  clear hp3 op3
  go_wp2_with fail
  refine (unionL p2 p3 _ Op2.out Op3.out Hp2.out Hp3.out).mono ?_
  rintro e w6 ⟨b, rfl, hb, ob, G⟩
  replace Oa := Lib.hid (Oa.out.fr G)
  replace Op2 := Lib.hid (Op2.out.fr G)
  replace Op3 := Lib.hid (Op3.out.fr G)
  replace hF0 := hF0.trans G
  clear G
  have Hb := Lib.hid hb
  have Ob := Lib.hid ob
  clear hb ob
  clear Op2 Hp2
  clear Op3 Hp3
  go_wp2_with fail
  refine (spL [(1, 5), (9, 9)] #[.int .u32 1, .int .u32 5, .int .u32 9, .int .u32 9] 2 4 _ rfl rfl (by decide) rfl (by decide)).mono ?_
  rintro e w7 ⟨p4, rfl, hp4, op4, G⟩
  replace Oa := Lib.hid (Oa.out.fr G)
  replace Ob := Lib.hid (Ob.out.fr G)
  replace hF0 := hF0.trans G
  clear G
  have Hp4 := Lib.hid hp4
  have Op4 := Lib.hid op4
  clear hp4 op4
  go_wp2_with fail
  refine (spL [(4, 9)] #[.int .u32 4, .int .u32 9] 1 2 _ rfl rfl (by decide) rfl (by decide)).mono ?_
  rintro e w8 ⟨p5, rfl, hp5, op5, G⟩
  replace Oa := Lib.hid (Oa.out.fr G)
  replace Ob := Lib.hid (Ob.out.fr G)
  replace Op4 := Lib.hid (Op4.out.fr G)
  replace hF0 := hF0.trans G
  clear G
  have Hp5 := Lib.hid hp5
  have Op5 := Lib.hid op5
  clear hp5 op5
  go_wp2_with fail
  refine (commonL p4 p5 _ Op4.out Op5.out Hp4.out Hp5.out).mono ?_
  rintro e w9 ⟨c, rfl, hc, oc, G⟩
  replace Oa := Lib.hid (Oa.out.fr G)
  replace Ob := Lib.hid (Ob.out.fr G)
  replace Op4 := Lib.hid (Op4.out.fr G)
  replace Op5 := Lib.hid (Op5.out.fr G)
  replace hF0 := hF0.trans G
  clear G
  have Hc := Lib.hid hc
  have Oc := Lib.hid oc
  clear hc oc
  clear Op4 Hp4
  clear Op5 Hp5
  go_wp2_with fail
  refine (spL [(1, 5), (9, 9)] #[.int .u32 1, .int .u32 5, .int .u32 9, .int .u32 9] 2 4 _ rfl rfl (by decide) rfl (by decide)).mono ?_
  rintro e w10 ⟨p6, rfl, hp6, op6, G⟩
  replace Oa := Lib.hid (Oa.out.fr G)
  replace Ob := Lib.hid (Ob.out.fr G)
  replace Oc := Lib.hid (Oc.out.fr G)
  replace hF0 := hF0.trans G
  clear G
  have Hp6 := Lib.hid hp6
  have Op6 := Lib.hid op6
  clear hp6 op6
  go_wp2_with fail
  refine (spL [(4, 9)] #[.int .u32 4, .int .u32 9] 1 2 _ rfl rfl (by decide) rfl (by decide)).mono ?_
  rintro e w11 ⟨p7, rfl, hp7, op7, G⟩
  replace Oa := Lib.hid (Oa.out.fr G)
  replace Ob := Lib.hid (Ob.out.fr G)
  replace Oc := Lib.hid (Oc.out.fr G)
  replace Op6 := Lib.hid (Op6.out.fr G)
  replace hF0 := hF0.trans G
  clear G
  have Hp7 := Lib.hid hp7
  have Op7 := Lib.hid op7
  clear hp7 op7
  go_wp2_with fail
  refine (withoutL p6 p7 _ Op6.out Op7.out Hp6.out Hp7.out).mono ?_
  rintro e w12 ⟨d, rfl, hd, od, G⟩
  replace Oa := Lib.hid (Oa.out.fr G)
  replace Ob := Lib.hid (Ob.out.fr G)
  replace Oc := Lib.hid (Oc.out.fr G)
  replace Op6 := Lib.hid (Op6.out.fr G)
  replace Op7 := Lib.hid (Op7.out.fr G)
  replace hF0 := hF0.trans G
  clear G
  have Hd := Lib.hid hd
  have Od := Lib.hid od
  clear hd od
  clear Op6 Hp6
  clear Op7 Hp7
  go_wp2_with fail
  refine (spL [(1, 3)] #[.int .u32 1, .int .u32 3] 1 2 _ rfl rfl (by decide) rfl (by decide)).mono ?_
  rintro e w13 ⟨p8, rfl, hp8, op8, G⟩
  replace Oa := Lib.hid (Oa.out.fr G)
  replace Ob := Lib.hid (Ob.out.fr G)
  replace Oc := Lib.hid (Oc.out.fr G)
  replace Od := Lib.hid (Od.out.fr G)
  replace hF0 := hF0.trans G
  clear G
  have Hp8 := Lib.hid hp8
  have Op8 := Lib.hid op8
  clear hp8 op8
  go_wp2_with fail
  refine (othersL p8 _ Op8.out Hp8.out).mono ?_
  rintro e w14 ⟨f, rfl, hf, of, G⟩
  replace Oa := Lib.hid (Oa.out.fr G)
  replace Ob := Lib.hid (Ob.out.fr G)
  replace Oc := Lib.hid (Oc.out.fr G)
  replace Od := Lib.hid (Od.out.fr G)
  replace Op8 := Lib.hid (Op8.out.fr G)
  replace hF0 := hF0.trans G
  clear G
  have Hf := Lib.hid hf
  have Of := Lib.hid of
  clear hf of
  clear Op8 Hp8
  go_wp2_with fail
  refine (allL _).mono ?_
  rintro e w15 ⟨g, rfl, hg, og, G⟩
  replace Oa := Lib.hid (Oa.out.fr G)
  replace Ob := Lib.hid (Ob.out.fr G)
  replace Oc := Lib.hid (Oc.out.fr G)
  replace Od := Lib.hid (Od.out.fr G)
  replace Of := Lib.hid (Of.out.fr G)
  replace hF0 := hF0.trans G
  clear G
  have Hg := Lib.hid hg
  have Og := Lib.hid og
  clear hg og
  go_wp2_with fail
  refine (spL [(1, 6)] #[.int .u32 1, .int .u32 6] 1 2 _ rfl rfl (by decide) rfl (by decide)).mono ?_
  rintro e w16 ⟨p9, rfl, hp9, op9, G⟩
  replace Oa := Lib.hid (Oa.out.fr G)
  replace Ob := Lib.hid (Ob.out.fr G)
  replace Oc := Lib.hid (Oc.out.fr G)
  replace Od := Lib.hid (Od.out.fr G)
  replace Of := Lib.hid (Of.out.fr G)
  replace Og := Lib.hid (Og.out.fr G)
  replace hF0 := hF0.trans G
  clear G
  have Hp9 := Lib.hid hp9
  have Op9 := Lib.hid op9
  clear hp9 op9
  go_wp2_with fail
  refine (prefixesL p9 _ Op9.out Hp9.out (HV.out.fr hF0)).mono ?_
  rintro e w17 ⟨⟨pA, pc, rfl⟩, G⟩
  replace Oa := Lib.hid (Oa.out.fr G)
  replace Ob := Lib.hid (Ob.out.fr G)
  replace Oc := Lib.hid (Oc.out.fr G)
  replace Od := Lib.hid (Od.out.fr G)
  replace Of := Lib.hid (Of.out.fr G)
  replace Og := Lib.hid (Og.out.fr G)
  replace Op9 := Lib.hid (Op9.out.fr G)
  replace hF0 := hF0.trans G
  clear G
  clear Op9 Hp9
  go_wp2_with fail
  refine (spL [(1, 3), (7, 7)] #[.int .u32 1, .int .u32 3, .int .u32 7, .int .u32 7] 2 4 _ rfl rfl (by decide) rfl (by decide)).mono ?_
  rintro e w18 ⟨q1, rfl, hq1, oq1, G⟩
  replace Oa := Lib.hid (Oa.out.fr G)
  replace Ob := Lib.hid (Ob.out.fr G)
  replace Oc := Lib.hid (Oc.out.fr G)
  replace Od := Lib.hid (Od.out.fr G)
  replace Of := Lib.hid (Of.out.fr G)
  replace Og := Lib.hid (Og.out.fr G)
  replace hF0 := hF0.trans G
  clear G
  have Hq1 := Lib.hid hq1
  have Oq1 := Lib.hid oq1
  clear hq1 oq1
  go_wp2_with fail
  refine (textL q1 _ Oq1.out Hq1.out (HV.out.fr hF0)).mono ?_
  rintro e w19 ⟨rfl, G⟩
  replace Oa := Lib.hid (Oa.out.fr G)
  replace Ob := Lib.hid (Ob.out.fr G)
  replace Oc := Lib.hid (Oc.out.fr G)
  replace Od := Lib.hid (Od.out.fr G)
  replace Of := Lib.hid (Of.out.fr G)
  replace Og := Lib.hid (Og.out.fr G)
  replace Oq1 := Lib.hid (Oq1.out.fr G)
  replace hF0 := hF0.trans G
  clear G
  clear Oq1 Hq1
  go_wp2_with fail
  refine (spL [(1, 3), (5, 9)] #[.int .u32 1, .int .u32 3, .int .u32 5, .int .u32 9] 2 4 _ rfl rfl (by decide) rfl (by decide)).mono ?_
  rintro e w20 ⟨r1, rfl, hr1, or1, G⟩
  replace Oa := Lib.hid (Oa.out.fr G)
  replace Ob := Lib.hid (Ob.out.fr G)
  replace Oc := Lib.hid (Oc.out.fr G)
  replace Od := Lib.hid (Od.out.fr G)
  replace Of := Lib.hid (Of.out.fr G)
  replace Og := Lib.hid (Og.out.fr G)
  replace hF0 := hF0.trans G
  clear G
  have Hr1 := Lib.hid hr1
  have Or1 := Lib.hid or1
  clear hr1 or1
  go_wp2_with fail
  refine (sameL a r1 _ Oa.out Or1.out (by rw [Ha.out, Hr1.out])).mono ?_
  rintro e w21 ⟨rfl, G⟩
  replace Oa := Lib.hid (Oa.out.fr G)
  replace Ob := Lib.hid (Ob.out.fr G)
  replace Oc := Lib.hid (Oc.out.fr G)
  replace Od := Lib.hid (Od.out.fr G)
  replace Of := Lib.hid (Of.out.fr G)
  replace Og := Lib.hid (Og.out.fr G)
  replace Or1 := Lib.hid (Or1.out.fr G)
  replace hF0 := hF0.trans G
  clear G
  clear Or1 Hr1
  clear Oa Ha
  go_wp2_with fail
  refine (spL [(1, 6)] #[.int .u32 1, .int .u32 6] 1 2 _ rfl rfl (by decide) rfl (by decide)).mono ?_
  rintro e w22 ⟨r2, rfl, hr2, or2, G⟩
  replace Ob := Lib.hid (Ob.out.fr G)
  replace Oc := Lib.hid (Oc.out.fr G)
  replace Od := Lib.hid (Od.out.fr G)
  replace Of := Lib.hid (Of.out.fr G)
  replace Og := Lib.hid (Og.out.fr G)
  replace hF0 := hF0.trans G
  clear G
  have Hr2 := Lib.hid hr2
  have Or2 := Lib.hid or2
  clear hr2 or2
  go_wp2_with fail
  refine (sameL b r2 _ Ob.out Or2.out (by rw [Hb.out, Hr2.out])).mono ?_
  rintro e w23 ⟨rfl, G⟩
  replace Ob := Lib.hid (Ob.out.fr G)
  replace Oc := Lib.hid (Oc.out.fr G)
  replace Od := Lib.hid (Od.out.fr G)
  replace Of := Lib.hid (Of.out.fr G)
  replace Og := Lib.hid (Og.out.fr G)
  replace Or2 := Lib.hid (Or2.out.fr G)
  replace hF0 := hF0.trans G
  clear G
  clear Or2 Hr2
  clear Ob Hb
  go_wp2_with fail
  refine (spL [(4, 5), (9, 9)] #[.int .u32 4, .int .u32 5, .int .u32 9, .int .u32 9] 2 4 _ rfl rfl (by decide) rfl (by decide)).mono ?_
  rintro e w24 ⟨r3, rfl, hr3, or3, G⟩
  replace Oc := Lib.hid (Oc.out.fr G)
  replace Od := Lib.hid (Od.out.fr G)
  replace Of := Lib.hid (Of.out.fr G)
  replace Og := Lib.hid (Og.out.fr G)
  replace hF0 := hF0.trans G
  clear G
  have Hr3 := Lib.hid hr3
  have Or3 := Lib.hid or3
  clear hr3 or3
  go_wp2_with fail
  refine (sameL c r3 _ Oc.out Or3.out (by rw [Hc.out, Hr3.out])).mono ?_
  rintro e w25 ⟨rfl, G⟩
  replace Oc := Lib.hid (Oc.out.fr G)
  replace Od := Lib.hid (Od.out.fr G)
  replace Of := Lib.hid (Of.out.fr G)
  replace Og := Lib.hid (Og.out.fr G)
  replace Or3 := Lib.hid (Or3.out.fr G)
  replace hF0 := hF0.trans G
  clear G
  clear Or3 Hr3
  clear Oc Hc
  go_wp2_with fail
  refine (spL [(1, 3)] #[.int .u32 1, .int .u32 3] 1 2 _ rfl rfl (by decide) rfl (by decide)).mono ?_
  rintro e w26 ⟨r4, rfl, hr4, or4, G⟩
  replace Od := Lib.hid (Od.out.fr G)
  replace Of := Lib.hid (Of.out.fr G)
  replace Og := Lib.hid (Og.out.fr G)
  replace hF0 := hF0.trans G
  clear G
  have Hr4 := Lib.hid hr4
  have Or4 := Lib.hid or4
  clear hr4 or4
  go_wp2_with fail
  refine (sameL d r4 _ Od.out Or4.out (by rw [Hd.out, Hr4.out])).mono ?_
  rintro e w27 ⟨rfl, G⟩
  replace Od := Lib.hid (Od.out.fr G)
  replace Of := Lib.hid (Of.out.fr G)
  replace Og := Lib.hid (Og.out.fr G)
  replace Or4 := Lib.hid (Or4.out.fr G)
  replace hF0 := hF0.trans G
  clear G
  clear Or4 Hr4
  clear Od Hd
  go_wp2_with fail
  refine (spL [(0, 0), (4, 4294967295)] #[.int .u32 0, .int .u32 0, .int .u32 4, .int .u32 4294967295] 2 4 _ rfl rfl (by decide) rfl (by decide)).mono ?_
  rintro e w28 ⟨r5, rfl, hr5, or5, G⟩
  replace Of := Lib.hid (Of.out.fr G)
  replace Og := Lib.hid (Og.out.fr G)
  replace hF0 := hF0.trans G
  clear G
  have Hr5 := Lib.hid hr5
  have Or5 := Lib.hid or5
  clear hr5 or5
  go_wp2_with fail
  refine (sameL f r5 _ Of.out Or5.out (by rw [Hf.out, Hr5.out])).mono ?_
  rintro e w29 ⟨rfl, G⟩
  replace Of := Lib.hid (Of.out.fr G)
  replace Og := Lib.hid (Og.out.fr G)
  replace Or5 := Lib.hid (Or5.out.fr G)
  replace hF0 := hF0.trans G
  clear G
  clear Or5 Hr5
  clear Of Hf
  go_wp2_with fail
  refine (spL [(0, 4294967295)] #[.int .u32 0, .int .u32 4294967295] 1 2 _ rfl rfl (by decide) rfl (by decide)).mono ?_
  rintro e w30 ⟨r6, rfl, hr6, or6, G⟩
  replace Og := Lib.hid (Og.out.fr G)
  replace hF0 := hF0.trans G
  clear G
  have Hr6 := Lib.hid hr6
  have Or6 := Lib.hid or6
  clear hr6 or6
  go_wp2_with fail
  refine (sameL g r6 _ Og.out Or6.out (by rw [Hg.out, Hr6.out])).mono ?_
  rintro e w31 ⟨rfl, G⟩
  replace Og := Lib.hid (Og.out.fr G)
  replace Or6 := Lib.hid (Or6.out.fr G)
  replace hF0 := hF0.trans G
  clear G
  clear Or6 Hr6
  clear Og Hg
  go_wp2_with fail
  have hcs : ∀ k, k < 6 → ∃ s : ByteArray, (#[.string ⟨#[51, 45, 49]⟩, .string ⟨#[49, 45, 50, 44, 51]⟩, .string ⟨#[55, 44, 49]⟩, .string ⟨#[49, 45, 49]⟩, .string ⟨#[48, 49]⟩, .string ⟨#[49, 44]⟩] : Array Value)[k]? = some (.string s) ∧ NoSet s.data.toList ∧ s.size ≤ 281474976710656 := by
    intro k hk
    rcases (by omega : k = 0 ∨ k = 1 ∨ k = 2 ∨ k = 3 ∨ k = 4 ∨ k = 5) with rfl | rfl | rfl | rfl | rfl | rfl
    · exact ⟨_, rfl, no1, by decide⟩
    · exact ⟨_, rfl, no2, by decide⟩
    · exact ⟨_, rfl, no3, by decide⟩
    · exact ⟨_, rfl, no4, by decide⟩
    · exact ⟨_, rfl, no5, by decide⟩
    · exact ⟨_, rfl, no6, by decide⟩
  have hnc : ∀ k, k < 6 → ∃ s : ByteArray, (w31.alloc (.cells #[.string ⟨#[51, 45, 49]⟩, .string ⟨#[49, 45, 50, 44, 51]⟩, .string ⟨#[55, 44, 49]⟩, .string ⟨#[49, 45, 49]⟩, .string ⟨#[48, 49]⟩, .string ⟨#[49, 44]⟩] 9)).cell? ⟨w31.heap.size, k, none⟩ = some (.string s) ∧ NoSet s.data.toList ∧ s.size ≤ 281474976710656 := fun k hk => by
    obtain ⟨s, h1, h2⟩ := hcs k hk
    exact ⟨s, new_cell _ _ _ k _ h1, h2⟩
  have hFA := hF0.alloc (.cells #[.string ⟨#[51, 45, 49]⟩, .string ⟨#[49, 45, 50, 44, 51]⟩, .string ⟨#[55, 44, 49]⟩, .string ⟨#[49, 45, 49]⟩, .string ⟨#[48, 49]⟩, .string ⟨#[49, 44]⟩] 9)
  generalize w31.alloc (.cells #[.string ⟨#[51, 45, 49]⟩, .string ⟨#[49, 45, 50, 44, 51]⟩, .string ⟨#[55, 44, 49]⟩, .string ⟨#[49, 45, 49]⟩, .string ⟨#[48, 49]⟩, .string ⟨#[49, 44]⟩] 9) = wA at hnc hFA ⊢
  generalize w31.heap.size = gA at hnc ⊢
  clear hcs hF0
  have HNC := Lib.hid hnc
  clear hnc
  go_loopw [162] (fun i wr => ∃ k : Nat, k ≤ 6 ∧ i = .int .i64 k ∧ Fr [] wA wr) (fun i _ => 6 - (intOf i).toNat)
  case atStart => exact ⟨0, Nat.zero_le _, rfl, Fr.refl _ _⟩
  case round =>
    obtain ⟨k, hk, rfl, hF⟩ := hrel
    by_cases hlt : k < 6
    · obtain ⟨s, hc, hn, hs⟩ := HNC.out k hlt
      have hcw := hF.cell hc (by simp)
      have hi0 : (0 : Int) ≤ (k : Int) ∧ (k : Int) < 6 := by omega
      have cR := readL s hs hn wr (HV.out.fr (hFA.trans hF))
      clear hn hc
      go_wp2_with fail
      refine cR.mono ?_
      rintro e w2 ⟨rfl, G⟩
      go_wp2_with fail
      exact ⟨⟨k + 1, by omega, by go_num, hF.trans G⟩, by simp [intOf]; omega⟩
    · obtain rfl : k = 6 := by omega
      have hFB := hFA.trans hF
      go_wp2_with fail
      refine (spL [(1, 3), (7, 7)] #[.int .u32 1, .int .u32 3, .int .u32 7, .int .u32 7] 2 4 _ rfl rfl (by decide) rfl (by decide)).mono ?_
      rintro e w3 ⟨s1, rfl, h1, o1, G1⟩
      have H1 := Lib.hid h1
      have O1 := Lib.hid o1
      clear h1 o1
      go_wp2_with fail
      refine (next4L s1 _ O1.out H1.out).mono ?_
      rintro e w4 ⟨rfl, G2⟩
      go_wp2_with fail
      refine (spL [(1, 3), (7, 7)] #[.int .u32 1, .int .u32 3, .int .u32 7, .int .u32 7] 2 4 _ rfl rfl (by decide) rfl (by decide)).mono ?_
      rintro e w5 ⟨s2, rfl, h2, o2, G3⟩
      have H2 := Lib.hid h2
      have O2 := Lib.hid o2
      clear h2 o2
      go_wp2_with fail
      refine (next8L s2 _ O2.out H2.out).mono ?_
      rintro e w6 ⟨rfl, G4⟩
      go_wp2_with fail
      go_ret
      exact ⟨rfl, (((hFB.trans G1).trans G2).trans G3).trans G4⟩
end Go.Proofs.YtjfadoealhlccaaGreatDoor
