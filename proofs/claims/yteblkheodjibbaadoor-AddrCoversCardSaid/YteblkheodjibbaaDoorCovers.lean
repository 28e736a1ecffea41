/- AddrCovers: the prefixes that cover a range. -/
import Derived.Test.YteblkheodjibbaaDoorAwk
import Derived.Test.YteblkheodjibbaaDoorLen
import Derived.Sort.AtCall
import Derived.Deep.DeepCutAuto
namespace Go.Proofs.YteblkheodjibbaaDoor
open Go.RowKit
set_option linter.unusedVariables false
set_option maxRecDepth 100000

set_option maxHeartbeats 2000000 in
theorem covers_any (f t o : Nat) (hf : f < 4294967296) (ht : t < 4294967296) (ho : o < 4294967296) (w : World) (hV : VV w) :
    Calls Tryd.prog 4 #[.int .u32 f, .int .u32 t, .int .u32 o] w fun e w' => e = .returned (.bool true) ∧ Fr [] w w' := by
  by_cases hft : t < f
  · have h1 : decide (t < f) = true := decide_eq_true hft
    go_enter Tryd.func4, Tryd.ntmps4
    go_wp2_with fail
    refine (awake_any _ hV).mono ?_
    rintro e w1 ⟨rfl, hF⟩
    go_wp2_with fail
    refine (cover_no f t hft _).mono ?_
    rintro e w2 ⟨rfl, hG⟩
    go_wp2_with fail
    go_ret
    exact ⟨rfl, hF.trans hG⟩
  · have h1 : decide (t < f) = false := decide_eq_false hft
    obtain ⟨L, hC⟩ := cov_ex ht (t - f + 1) f (by omega) (by omega)
    have h62 := cov_62 hC ht
    have hpos := cov_ne hC
    obtain ⟨N, hN⟩ : ∃ N, N = L.length := ⟨_, rfl⟩
    have hcov : ∀ W, VV W → Calls Tryd.prog 15 #[.int .u32 f, .int .u32 t] W fun e w' => ∃ g o c, e = .returned (.tuple #[.slice (some ⟨g, o, none⟩) N c, .int .i64 0]) ∧ Rd w' (some ⟨g, o, none⟩) (CP L) ∧ Fr [] W w' := fun W hV => by
      refine (cover_yes f t L hC ht W hV).mono ?_
      rintro e w' ⟨v, rfl, ho, hF⟩
      obtain ⟨A, c, rfl, _, _, hb⟩ := own_slice ho
      have hR := own_rd2 ho
      obtain ⟨g, o, rfl⟩ := rd_addr hR (by rw [CP_length]; omega)
      exact ⟨g, o, c, by rw [hN], hR, hF⟩
    rw [← hN] at h62 hpos
    have e1 : ((N : Int) == 0) = false := by rw [beq_eq_false_iff_ne]; omega
    have e2 : ¬ 62 < N := by omega
    have e3 : decide (62 < N) = false := decide_eq_false e2
    have wf : IntKind.u64.wrap (f : Int) = f := by rw [IntKind.wrap_u64]; omega
    have HN := Lib.hid hN
    have HC := Lib.hid hC
    clear hN hC
    go_enter Tryd.func4, Tryd.ntmps4
    go_wp2_with fail
    refine (awake_any _ hV).mono ?_
    rintro e w1 ⟨rfl, hF⟩
    have hV1 := hV.fr hF
    go_wp2_with fail
    refine (hcov _ hV1).mono ?_
    rintro e w2 ⟨g, o', c, rfl, hR, hG⟩
    replace hF := hF.trans hG
    clear hG hV1 hcov hV
    go_wp2_with fail
    go_loopw [9, 10, 52] (fun v9 v10 v52 wr => ∃ (k s : Nat) (b : Bool), k ≤ N ∧ v52 = .int .i64 k ∧ v9 = .int .u64 s ∧ v10 = .bool b ∧ CovAt t L k s ∧ f ≤ s ∧ s ≤ t + 1 ∧ (b = true ↔ (f ≤ o ∧ o < s)) ∧ (k = 0 ∨ (0 < k ∧ ∃ s0 n0, L[k - 1]? = some (s0, n0) ∧ IsW s0 t n0 ∧ s0 + psize n0 = s)) ∧ Fr [] w2 wr) (fun _ _ i _ => N - (intOf i).toNat)
    case atStart => exact ⟨0, f, false, Nat.zero_le _, rfl, rfl, rfl, covAt_start HC.out, Nat.le_refl _, by omega, by simp, .inl rfl, Fr.refl _ _⟩
    case round =>
      obtain ⟨k, s, b, hk, rfl, rfl, rfl, hA, hfs, hst, hb, hpr, hFr⟩ := hrel
      by_cases hlt : k < N
      · obtain ⟨n, hx, hw, hnext⟩ := covAt_step hA (by rw [← HN.out]; exact hlt)
        obtain ⟨x1, x2⟩ := CP_get hx
        have hR2 := hR.fr hFr (by simp)
        have p1 := rdc hR2 _ _ x1
        have p2 := rdc hR2 _ _ x2
        rw [← Nat.add_assoc] at p2
        simp only at p1 p2
        have hpp := psize_pos n
        have hn32 := hw.1.1
        have hend := hw.2.1
        have hs32 : s < 4294967296 := by omega
        obtain ⟨e, he⟩ : ∃ e, e = s + (psize n - 1) := ⟨_, rfl⟩
        have he32 : e < 4294967296 := by omega
        have hse : s ≤ e := by omega
        have cB : ∀ W, Calls Tryd.prog 16 #[.agg #[.int .u32 s, .int .u8 n]] W fun e' w' => e' = .returned (.tuple #[.int .u32 s, .int .u32 e, .int .i64 0]) ∧ Fr [] W w' := fun W => by rw [he]; exact bounds_yes s n hs32 (by omega) hw.1 W
        have cR : ∀ W, Calls Tryd.prog 17 #[.agg #[.int .u32 s, .int .u8 n]] W fun e' w' => e' = .returned (.bool true) ∧ Fr [] W w' := fun W => by have h := right_any s n hs32 (by omega) W; rwa [decide_eq_true hw.1] at h
        have cH : ∀ (x : Nat) (B : Bool), x < 4294967296 → B = decide (s ≤ x ∧ x ≤ e) → ∀ W, Calls Tryd.prog 18 #[.agg #[.int .u32 s, .int .u8 n], .int .u32 x] W fun e' w' => e' = .returned (.bool B) ∧ Fr [] W w' := fun x B hx hB W => by
          have h := has_any s n x hs32 (by omega) hx W
          have e2 : decide (PH s n x) = B := by rw [hB, he]; exact decide_eq_decide.2 (ph_iff hw.1)
          rwa [e2] at h
        have cHs := cH s true hs32 (by rw [decide_eq_true]; omega)
        have cHe := cH e true he32 (by rw [decide_eq_true]; omega)
        have cHo := fun B h => cH o B ho h
        have cHl : 0 < s → ∀ W, Calls Tryd.prog 18 #[.agg #[.int .u32 s, .int .u8 n], .int .u32 ((s : Int) - 1)] W fun e' w' => e' = .returned (.bool false) ∧ Fr [] W w' := fun h W => by
          have h1 := cH (s - 1) false (by omega) (by rw [decide_eq_false]; omega) W
          rwa [show ((s - 1 : Nat) : Int) = (s : Int) - 1 by omega] at h1
        have cHh : e < 4294967295 → ∀ W, Calls Tryd.prog 18 #[.agg #[.int .u32 s, .int .u8 n], .int .u32 ((e : Int) + 1)] W fun e' w' => e' = .returned (.bool false) ∧ Fr [] W w' := fun h W => by
          have h1 := cH (e + 1) false (by omega) (by rw [decide_eq_false]; omega) W
          rwa [show ((e + 1 : Nat) : Int) = (e : Int) + 1 by omega] at h1
        have hin : (b || decide (s ≤ o ∧ o ≤ e)) = true ↔ (f ≤ o ∧ o < s + psize n) := by
          rw [Bool.or_eq_true, hb, decide_eq_true_eq]; omega
        have hprev : k = 0 ∨ (0 < k ∧ ∃ s0 n0 : Nat, ((CP L)[(k - 1) * 2]? = some (.int .u32 s0) ∧ (CP L)[(k - 1) * 2 + 1]? = some (.int .u8 n0)) ∧ s0 < 4294967296 ∧ n0 ≤ 32 ∧ (n0 = n → 1 ≤ n ∧ ¬ PI s0 n (pcut s (n - 1)) (n - 1))) := by
          rcases hpr with h | ⟨hk0, s0, n0, h1, h2, h3⟩
          · exact .inl h
          · refine .inr ⟨hk0, s0, n0, CP_get h1, by omega, h2.1.1, fun e1 => ?_⟩
            subst e1
            have hn1 : 1 ≤ n0 := by
              rcases Nat.eq_zero_or_pos n0 with h0 | h0
              · subst h0
                rw [psize_zero] at h3
                omega
              · exact h0
            refine ⟨hn1, ?_⟩
            have := cov_apart h2 hn1 (by rw [h3]; omega)
            rwa [h3] at this
        have wu1 : IntKind.u64.wrap (s : Int) = s := by rw [IntKind.wrap_u64]; omega
        have wu2 : IntKind.u64.wrap (e : Int) = e := by rw [IntKind.wrap_u64]; omega
        have hi0 : (0 : Int) ≤ (k : Int) ∧ (k : Int) < N := by omega
        have hle : ¬ e < s := by omega
        have hle2 : decide (e < s) = false := decide_eq_false hle
        have HP := Lib.hid hprev
        have HI := Lib.hid hin
        have HE := Lib.hid he
        have HW := Lib.hid hw
        have HX := Lib.hid hx
        have HNX := Lib.hid hnext
        clear hprev hin he hw hx hnext hpr hb hA x1 x2 cH hend hpp
        go_wp2_with fail
        refine (cB _).mono ?_
        rintro e0 v1 ⟨rfl, hG⟩
        have P := (pc_new wr s n 34).fr hG (by simp)
        replace hFr := (hFr.alloc (.cells #[.int .u32 s, .int .u8 n] 34)).trans hG
        clear hG cB p1 p2
        go_upto_region 13 with fail
        generalize wr.heap.size = gp at P ⊢
        clear hR2
        go_cut [126] (fun s126 wx => s126 = .bool false ∧ Fr [] w2 wx ∧ PC wx gp s n)
        case first =>
          clear HP HI HE HW HX HNX HN HC
          rcases (show o < s ∨ (s ≤ o ∧ o ≤ e) ∨ e < o by omega) with hw | hw | hw
          · have cO := cHo false (by rw [decide_eq_false]; omega)
            have d0 : decide (s ≤ o) = false := by rw [decide_eq_false_iff_not]; omega
            have i0 : ¬ s ≤ o := by omega
            clear hw cHo
            by_cases hs0 : 0 < s
            · have cL := cHl hs0
              have ds : decide (0 < s) = true := decide_eq_true hs0
              have is : (0 : Int) < (s : Int) := by omega
              clear cHl
              by_cases he0 : e < 4294967295
              · have cM := cHh he0
                have de : decide (e < 4294967295) = true := decide_eq_true he0
                have ie : (e : Int) < 4294967295 := by omega
                clear cHh
                have p1 := P.c0
                have p2 := P.c1
                go_wp2_with fail
                clear p1 p2
                refine (cR _).mono ?_
                rintro e0 v ⟨rfl, hG⟩
                replace hFr := hFr.trans hG
                replace P := P.fr hG (by simp)
                clear hG
                have p1 := P.c0
                have p2 := P.c1
                go_wp2_with fail
                clear p1 p2
                refine (cHs _).mono ?_
                rintro e0 v ⟨rfl, hG⟩
                replace hFr := hFr.trans hG
                replace P := P.fr hG (by simp)
                clear hG
                have p1 := P.c0
                have p2 := P.c1
                go_wp2_with fail
                clear p1 p2
                refine (cHe _).mono ?_
                rintro e0 v ⟨rfl, hG⟩
                replace hFr := hFr.trans hG
                replace P := P.fr hG (by simp)
                clear hG
                have p1 := P.c0
                have p2 := P.c1
                go_wp2_with fail
                clear p1 p2
                refine (cO _).mono ?_
                rintro e0 v ⟨rfl, hG⟩
                replace hFr := hFr.trans hG
                replace P := P.fr hG (by simp)
                clear hG
                have p1 := P.c0
                have p2 := P.c1
                go_wp2_with fail
                clear p1 p2
                refine (cL _).mono ?_
                rintro e0 v ⟨rfl, hG⟩
                replace hFr := hFr.trans hG
                replace P := P.fr hG (by simp)
                clear hG
                have p1 := P.c0
                have p2 := P.c1
                go_wp2_with fail
                clear p1 p2
                refine (cM _).mono ?_
                rintro e0 v ⟨rfl, hG⟩
                replace hFr := hFr.trans hG
                replace P := P.fr hG (by simp)
                clear hG
                have p1 := P.c0
                have p2 := P.c1
                go_wp2_with fail
                clear p1 p2
                go_meet
                exact ⟨rfl, hFr, P⟩
              · have de : decide (e < 4294967295) = false := decide_eq_false he0
                have dei : decide ((e : Int) < 4294967295) = false := by rw [decide_eq_false_iff_not]; omega
                clear cHh he0 he32 de
                have p1 := P.c0
                have p2 := P.c1
                go_wp2_with fail
                clear p1 p2
                refine (cR _).mono ?_
                rintro e0 v ⟨rfl, hG⟩
                replace hFr := hFr.trans hG
                replace P := P.fr hG (by simp)
                clear hG
                have p1 := P.c0
                have p2 := P.c1
                go_wp2_with fail
                clear p1 p2
                refine (cHs _).mono ?_
                rintro e0 v ⟨rfl, hG⟩
                replace hFr := hFr.trans hG
                replace P := P.fr hG (by simp)
                clear hG
                have p1 := P.c0
                have p2 := P.c1
                go_wp2_with fail
                clear p1 p2
                refine (cHe _).mono ?_
                rintro e0 v ⟨rfl, hG⟩
                replace hFr := hFr.trans hG
                replace P := P.fr hG (by simp)
                clear hG
                have p1 := P.c0
                have p2 := P.c1
                go_wp2_with fail
                clear p1 p2
                refine (cO _).mono ?_
                rintro e0 v ⟨rfl, hG⟩
                replace hFr := hFr.trans hG
                replace P := P.fr hG (by simp)
                clear hG
                have p1 := P.c0
                have p2 := P.c1
                go_wp2_with fail
                clear p1 p2
                refine (cL _).mono ?_
                rintro e0 v ⟨rfl, hG⟩
                replace hFr := hFr.trans hG
                replace P := P.fr hG (by simp)
                clear hG
                have p1 := P.c0
                have p2 := P.c1
                go_wp2_with fail
                clear p1 p2
                go_meet
                exact ⟨rfl, hFr, P⟩
            · have ds : decide (0 < s) = false := decide_eq_false hs0
              have is : ¬ (0 : Int) < (s : Int) := by omega
              clear cHl
              by_cases he0 : e < 4294967295
              · have cM := cHh he0
                have de : decide (e < 4294967295) = true := decide_eq_true he0
                have ie : (e : Int) < 4294967295 := by omega
                clear cHh
                have p1 := P.c0
                have p2 := P.c1
                go_wp2_with fail
                clear p1 p2
                refine (cR _).mono ?_
                rintro e0 v ⟨rfl, hG⟩
                replace hFr := hFr.trans hG
                replace P := P.fr hG (by simp)
                clear hG
                have p1 := P.c0
                have p2 := P.c1
                go_wp2_with fail
                clear p1 p2
                refine (cHs _).mono ?_
                rintro e0 v ⟨rfl, hG⟩
                replace hFr := hFr.trans hG
                replace P := P.fr hG (by simp)
                clear hG
                have p1 := P.c0
                have p2 := P.c1
                go_wp2_with fail
                clear p1 p2
                refine (cHe _).mono ?_
                rintro e0 v ⟨rfl, hG⟩
                replace hFr := hFr.trans hG
                replace P := P.fr hG (by simp)
                clear hG
                have p1 := P.c0
                have p2 := P.c1
                go_wp2_with fail
                clear p1 p2
                refine (cO _).mono ?_
                rintro e0 v ⟨rfl, hG⟩
                replace hFr := hFr.trans hG
                replace P := P.fr hG (by simp)
                clear hG
                have p1 := P.c0
                have p2 := P.c1
                go_wp2_with fail
                clear p1 p2
                refine (cM _).mono ?_
                rintro e0 v ⟨rfl, hG⟩
                replace hFr := hFr.trans hG
                replace P := P.fr hG (by simp)
                clear hG
                have p1 := P.c0
                have p2 := P.c1
                go_wp2_with fail
                clear p1 p2
                go_meet
                exact ⟨rfl, hFr, P⟩
              · have de : decide (e < 4294967295) = false := decide_eq_false he0
                have dei : decide ((e : Int) < 4294967295) = false := by rw [decide_eq_false_iff_not]; omega
                clear cHh he0 he32 de
                have p1 := P.c0
                have p2 := P.c1
                go_wp2_with fail
                clear p1 p2
                refine (cR _).mono ?_
                rintro e0 v ⟨rfl, hG⟩
                replace hFr := hFr.trans hG
                replace P := P.fr hG (by simp)
                clear hG
                have p1 := P.c0
                have p2 := P.c1
                go_wp2_with fail
                clear p1 p2
                refine (cHs _).mono ?_
                rintro e0 v ⟨rfl, hG⟩
                replace hFr := hFr.trans hG
                replace P := P.fr hG (by simp)
                clear hG
                have p1 := P.c0
                have p2 := P.c1
                go_wp2_with fail
                clear p1 p2
                refine (cHe _).mono ?_
                rintro e0 v ⟨rfl, hG⟩
                replace hFr := hFr.trans hG
                replace P := P.fr hG (by simp)
                clear hG
                have p1 := P.c0
                have p2 := P.c1
                go_wp2_with fail
                clear p1 p2
                refine (cO _).mono ?_
                rintro e0 v ⟨rfl, hG⟩
                replace hFr := hFr.trans hG
                replace P := P.fr hG (by simp)
                clear hG
                have p1 := P.c0
                have p2 := P.c1
                go_wp2_with fail
                clear p1 p2
                go_meet
                exact ⟨rfl, hFr, P⟩
          · have cO := cHo true (by rw [decide_eq_true]; omega)
            have d0 : decide (s ≤ o) = true := by rw [decide_eq_true_eq]; omega
            have i0 : s ≤ o := by omega
            have d1 : decide (o ≤ e) = true := by rw [decide_eq_true_eq]; omega
            have i1 : o ≤ e := by omega
            clear hw cHo
            by_cases hs0 : 0 < s
            · have cL := cHl hs0
              have ds : decide (0 < s) = true := decide_eq_true hs0
              have is : (0 : Int) < (s : Int) := by omega
              clear cHl
              by_cases he0 : e < 4294967295
              · have cM := cHh he0
                have de : decide (e < 4294967295) = true := decide_eq_true he0
                have ie : (e : Int) < 4294967295 := by omega
                clear cHh
                have p1 := P.c0
                have p2 := P.c1
                go_wp2_with fail
                clear p1 p2
                refine (cR _).mono ?_
                rintro e0 v ⟨rfl, hG⟩
                replace hFr := hFr.trans hG
                replace P := P.fr hG (by simp)
                clear hG
                have p1 := P.c0
                have p2 := P.c1
                go_wp2_with fail
                clear p1 p2
                refine (cHs _).mono ?_
                rintro e0 v ⟨rfl, hG⟩
                replace hFr := hFr.trans hG
                replace P := P.fr hG (by simp)
                clear hG
                have p1 := P.c0
                have p2 := P.c1
                go_wp2_with fail
                clear p1 p2
                refine (cHe _).mono ?_
                rintro e0 v ⟨rfl, hG⟩
                replace hFr := hFr.trans hG
                replace P := P.fr hG (by simp)
                clear hG
                have p1 := P.c0
                have p2 := P.c1
                go_wp2_with fail
                clear p1 p2
                refine (cO _).mono ?_
                rintro e0 v ⟨rfl, hG⟩
                replace hFr := hFr.trans hG
                replace P := P.fr hG (by simp)
                clear hG
                have p1 := P.c0
                have p2 := P.c1
                go_wp2_with fail
                clear p1 p2
                refine (cL _).mono ?_
                rintro e0 v ⟨rfl, hG⟩
                replace hFr := hFr.trans hG
                replace P := P.fr hG (by simp)
                clear hG
                have p1 := P.c0
                have p2 := P.c1
                go_wp2_with fail
                clear p1 p2
                refine (cM _).mono ?_
                rintro e0 v ⟨rfl, hG⟩
                replace hFr := hFr.trans hG
                replace P := P.fr hG (by simp)
                clear hG
                have p1 := P.c0
                have p2 := P.c1
                go_wp2_with fail
                clear p1 p2
                go_meet
                exact ⟨rfl, hFr, P⟩
              · have de : decide (e < 4294967295) = false := decide_eq_false he0
                have dei : decide ((e : Int) < 4294967295) = false := by rw [decide_eq_false_iff_not]; omega
                clear cHh he0 he32 de
                have p1 := P.c0
                have p2 := P.c1
                go_wp2_with fail
                clear p1 p2
                refine (cR _).mono ?_
                rintro e0 v ⟨rfl, hG⟩
                replace hFr := hFr.trans hG
                replace P := P.fr hG (by simp)
                clear hG
                have p1 := P.c0
                have p2 := P.c1
                go_wp2_with fail
                clear p1 p2
                refine (cHs _).mono ?_
                rintro e0 v ⟨rfl, hG⟩
                replace hFr := hFr.trans hG
                replace P := P.fr hG (by simp)
                clear hG
                have p1 := P.c0
                have p2 := P.c1
                go_wp2_with fail
                clear p1 p2
                refine (cHe _).mono ?_
                rintro e0 v ⟨rfl, hG⟩
                replace hFr := hFr.trans hG
                replace P := P.fr hG (by simp)
                clear hG
                have p1 := P.c0
                have p2 := P.c1
                go_wp2_with fail
                clear p1 p2
                refine (cO _).mono ?_
                rintro e0 v ⟨rfl, hG⟩
                replace hFr := hFr.trans hG
                replace P := P.fr hG (by simp)
                clear hG
                have p1 := P.c0
                have p2 := P.c1
                go_wp2_with fail
                clear p1 p2
                refine (cL _).mono ?_
                rintro e0 v ⟨rfl, hG⟩
                replace hFr := hFr.trans hG
                replace P := P.fr hG (by simp)
                clear hG
                have p1 := P.c0
                have p2 := P.c1
                go_wp2_with fail
                clear p1 p2
                go_meet
                exact ⟨rfl, hFr, P⟩
            · have ds : decide (0 < s) = false := decide_eq_false hs0
              have is : ¬ (0 : Int) < (s : Int) := by omega
              clear cHl
              by_cases he0 : e < 4294967295
              · have cM := cHh he0
                have de : decide (e < 4294967295) = true := decide_eq_true he0
                have ie : (e : Int) < 4294967295 := by omega
                clear cHh
                have p1 := P.c0
                have p2 := P.c1
                go_wp2_with fail
                clear p1 p2
                refine (cR _).mono ?_
                rintro e0 v ⟨rfl, hG⟩
                replace hFr := hFr.trans hG
                replace P := P.fr hG (by simp)
                clear hG
                have p1 := P.c0
                have p2 := P.c1
                go_wp2_with fail
                clear p1 p2
                refine (cHs _).mono ?_
                rintro e0 v ⟨rfl, hG⟩
                replace hFr := hFr.trans hG
                replace P := P.fr hG (by simp)
                clear hG
                have p1 := P.c0
                have p2 := P.c1
                go_wp2_with fail
                clear p1 p2
                refine (cHe _).mono ?_
                rintro e0 v ⟨rfl, hG⟩
                replace hFr := hFr.trans hG
                replace P := P.fr hG (by simp)
                clear hG
                have p1 := P.c0
                have p2 := P.c1
                go_wp2_with fail
                clear p1 p2
                refine (cO _).mono ?_
                rintro e0 v ⟨rfl, hG⟩
                replace hFr := hFr.trans hG
                replace P := P.fr hG (by simp)
                clear hG
                have p1 := P.c0
                have p2 := P.c1
                go_wp2_with fail
                clear p1 p2
                refine (cM _).mono ?_
                rintro e0 v ⟨rfl, hG⟩
                replace hFr := hFr.trans hG
                replace P := P.fr hG (by simp)
                clear hG
                have p1 := P.c0
                have p2 := P.c1
                go_wp2_with fail
                clear p1 p2
                go_meet
                exact ⟨rfl, hFr, P⟩
              · have de : decide (e < 4294967295) = false := decide_eq_false he0
                have dei : decide ((e : Int) < 4294967295) = false := by rw [decide_eq_false_iff_not]; omega
                clear cHh he0 he32 de
                have p1 := P.c0
                have p2 := P.c1
                go_wp2_with fail
                clear p1 p2
                refine (cR _).mono ?_
                rintro e0 v ⟨rfl, hG⟩
                replace hFr := hFr.trans hG
                replace P := P.fr hG (by simp)
                clear hG
                have p1 := P.c0
                have p2 := P.c1
                go_wp2_with fail
                clear p1 p2
                refine (cHs _).mono ?_
                rintro e0 v ⟨rfl, hG⟩
                replace hFr := hFr.trans hG
                replace P := P.fr hG (by simp)
                clear hG
                have p1 := P.c0
                have p2 := P.c1
                go_wp2_with fail
                clear p1 p2
                refine (cHe _).mono ?_
                rintro e0 v ⟨rfl, hG⟩
                replace hFr := hFr.trans hG
                replace P := P.fr hG (by simp)
                clear hG
                have p1 := P.c0
                have p2 := P.c1
                go_wp2_with fail
                clear p1 p2
                refine (cO _).mono ?_
                rintro e0 v ⟨rfl, hG⟩
                replace hFr := hFr.trans hG
                replace P := P.fr hG (by simp)
                clear hG
                have p1 := P.c0
                have p2 := P.c1
                go_wp2_with fail
                clear p1 p2
                go_meet
                exact ⟨rfl, hFr, P⟩
          · have cO := cHo false (by rw [decide_eq_false]; omega)
            have d0 : decide (s ≤ o) = true := by rw [decide_eq_true_eq]; omega
            have i0 : s ≤ o := by omega
            have d1 : decide (o ≤ e) = false := by rw [decide_eq_false_iff_not]; omega
            have i1 : ¬ o ≤ e := by omega
            clear hw cHo
            by_cases hs0 : 0 < s
            · have cL := cHl hs0
              have ds : decide (0 < s) = true := decide_eq_true hs0
              have is : (0 : Int) < (s : Int) := by omega
              clear cHl
              by_cases he0 : e < 4294967295
              · have cM := cHh he0
                have de : decide (e < 4294967295) = true := decide_eq_true he0
                have ie : (e : Int) < 4294967295 := by omega
                clear cHh
                have p1 := P.c0
                have p2 := P.c1
                go_wp2_with fail
                clear p1 p2
                refine (cR _).mono ?_
                rintro e0 v ⟨rfl, hG⟩
                replace hFr := hFr.trans hG
                replace P := P.fr hG (by simp)
                clear hG
                have p1 := P.c0
                have p2 := P.c1
                go_wp2_with fail
                clear p1 p2
                refine (cHs _).mono ?_
                rintro e0 v ⟨rfl, hG⟩
                replace hFr := hFr.trans hG
                replace P := P.fr hG (by simp)
                clear hG
                have p1 := P.c0
                have p2 := P.c1
                go_wp2_with fail
                clear p1 p2
                refine (cHe _).mono ?_
                rintro e0 v ⟨rfl, hG⟩
                replace hFr := hFr.trans hG
                replace P := P.fr hG (by simp)
                clear hG
                have p1 := P.c0
                have p2 := P.c1
                go_wp2_with fail
                clear p1 p2
                refine (cO _).mono ?_
                rintro e0 v ⟨rfl, hG⟩
                replace hFr := hFr.trans hG
                replace P := P.fr hG (by simp)
                clear hG
                have p1 := P.c0
                have p2 := P.c1
                go_wp2_with fail
                clear p1 p2
                refine (cL _).mono ?_
                rintro e0 v ⟨rfl, hG⟩
                replace hFr := hFr.trans hG
                replace P := P.fr hG (by simp)
                clear hG
                have p1 := P.c0
                have p2 := P.c1
                go_wp2_with fail
                clear p1 p2
                refine (cM _).mono ?_
                rintro e0 v ⟨rfl, hG⟩
                replace hFr := hFr.trans hG
                replace P := P.fr hG (by simp)
                clear hG
                have p1 := P.c0
                have p2 := P.c1
                go_wp2_with fail
                clear p1 p2
                go_meet
                exact ⟨rfl, hFr, P⟩
              · have de : decide (e < 4294967295) = false := decide_eq_false he0
                have dei : decide ((e : Int) < 4294967295) = false := by rw [decide_eq_false_iff_not]; omega
                clear cHh he0 he32 de
                have p1 := P.c0
                have p2 := P.c1
                go_wp2_with fail
                clear p1 p2
                refine (cR _).mono ?_
                rintro e0 v ⟨rfl, hG⟩
                replace hFr := hFr.trans hG
                replace P := P.fr hG (by simp)
                clear hG
                have p1 := P.c0
                have p2 := P.c1
                go_wp2_with fail
                clear p1 p2
                refine (cHs _).mono ?_
                rintro e0 v ⟨rfl, hG⟩
                replace hFr := hFr.trans hG
                replace P := P.fr hG (by simp)
                clear hG
                have p1 := P.c0
                have p2 := P.c1
                go_wp2_with fail
                clear p1 p2
                refine (cHe _).mono ?_
                rintro e0 v ⟨rfl, hG⟩
                replace hFr := hFr.trans hG
                replace P := P.fr hG (by simp)
                clear hG
                have p1 := P.c0
                have p2 := P.c1
                go_wp2_with fail
                clear p1 p2
                refine (cO _).mono ?_
                rintro e0 v ⟨rfl, hG⟩
                replace hFr := hFr.trans hG
                replace P := P.fr hG (by simp)
                clear hG
                have p1 := P.c0
                have p2 := P.c1
                go_wp2_with fail
                clear p1 p2
                refine (cL _).mono ?_
                rintro e0 v ⟨rfl, hG⟩
                replace hFr := hFr.trans hG
                replace P := P.fr hG (by simp)
                clear hG
                have p1 := P.c0
                have p2 := P.c1
                go_wp2_with fail
                clear p1 p2
                go_meet
                exact ⟨rfl, hFr, P⟩
            · have ds : decide (0 < s) = false := decide_eq_false hs0
              have is : ¬ (0 : Int) < (s : Int) := by omega
              clear cHl
              by_cases he0 : e < 4294967295
              · have cM := cHh he0
                have de : decide (e < 4294967295) = true := decide_eq_true he0
                have ie : (e : Int) < 4294967295 := by omega
                clear cHh
                have p1 := P.c0
                have p2 := P.c1
                go_wp2_with fail
                clear p1 p2
                refine (cR _).mono ?_
                rintro e0 v ⟨rfl, hG⟩
                replace hFr := hFr.trans hG
                replace P := P.fr hG (by simp)
                clear hG
                have p1 := P.c0
                have p2 := P.c1
                go_wp2_with fail
                clear p1 p2
                refine (cHs _).mono ?_
                rintro e0 v ⟨rfl, hG⟩
                replace hFr := hFr.trans hG
                replace P := P.fr hG (by simp)
                clear hG
                have p1 := P.c0
                have p2 := P.c1
                go_wp2_with fail
                clear p1 p2
                refine (cHe _).mono ?_
                rintro e0 v ⟨rfl, hG⟩
                replace hFr := hFr.trans hG
                replace P := P.fr hG (by simp)
                clear hG
                have p1 := P.c0
                have p2 := P.c1
                go_wp2_with fail
                clear p1 p2
                refine (cO _).mono ?_
                rintro e0 v ⟨rfl, hG⟩
                replace hFr := hFr.trans hG
                replace P := P.fr hG (by simp)
                clear hG
                have p1 := P.c0
                have p2 := P.c1
                go_wp2_with fail
                clear p1 p2
                refine (cM _).mono ?_
                rintro e0 v ⟨rfl, hG⟩
                replace hFr := hFr.trans hG
                replace P := P.fr hG (by simp)
                clear hG
                have p1 := P.c0
                have p2 := P.c1
                go_wp2_with fail
                clear p1 p2
                go_meet
                exact ⟨rfl, hFr, P⟩
              · have de : decide (e < 4294967295) = false := decide_eq_false he0
                have dei : decide ((e : Int) < 4294967295) = false := by rw [decide_eq_false_iff_not]; omega
                clear cHh he0 he32 de
                have p1 := P.c0
                have p2 := P.c1
                go_wp2_with fail
                clear p1 p2
                refine (cR _).mono ?_
                rintro e0 v ⟨rfl, hG⟩
                replace hFr := hFr.trans hG
                replace P := P.fr hG (by simp)
                clear hG
                have p1 := P.c0
                have p2 := P.c1
                go_wp2_with fail
                clear p1 p2
                refine (cHs _).mono ?_
                rintro e0 v ⟨rfl, hG⟩
                replace hFr := hFr.trans hG
                replace P := P.fr hG (by simp)
                clear hG
                have p1 := P.c0
                have p2 := P.c1
                go_wp2_with fail
                clear p1 p2
                refine (cHe _).mono ?_
                rintro e0 v ⟨rfl, hG⟩
                replace hFr := hFr.trans hG
                replace P := P.fr hG (by simp)
                clear hG
                have p1 := P.c0
                have p2 := P.c1
                go_wp2_with fail
                clear p1 p2
                refine (cO _).mono ?_
                rintro e0 v ⟨rfl, hG⟩
                replace hFr := hFr.trans hG
                replace P := P.fr hG (by simp)
                clear hG
                have p1 := P.c0
                have p2 := P.c1
                go_wp2_with fail
                clear p1 p2
                go_meet
                exact ⟨rfl, hFr, P⟩
        case rest =>
          obtain ⟨rfl, hFr, P⟩ := hcut
          have hrel : k + 1 ≤ N ∧ CovAt t L (k + 1) (e + 1) ∧ f ≤ e + 1 ∧ e + 1 ≤ t + 1 ∧ ((b || decide (s ≤ o ∧ o ≤ e)) = true ↔ (f ≤ o ∧ o < e + 1)) ∧ L[k + 1 - 1]? = some (s, n) ∧ IsW s t n ∧ s + psize n = e + 1 := by
            have h1 := HE.out
            have h2 := HW.out
            have h3 := psize_pos n
            have h4 : s + psize n = e + 1 := by omega
            have h5 := HNX.out
            have h6 := HI.out
            have h7 := h2.2.1
            rw [h4] at h5 h6
            exact ⟨by omega, h5, by omega, by omega, h6, by rw [Nat.add_sub_cancel]; exact HX.out, h2, h4⟩
          have HREL := Lib.hid hrel
          have wu3 : IntKind.u64.wrap ((e : Int) + 1) = (e : Int) + 1 := by rw [IntKind.wrap_u64]; omega
          have wk : IntKind.i64.wrap ((k : Int) + 1) = (k : Int) + 1 := i64_of (by omega) (by omega)
          have hR3 := hR.fr hFr (by simp)
          have hprev := HP.out
          clear hrel HI HE HNX HX HP cHl cHh cR cHs cHe
          rcases hprev with hk0 | ⟨hk0, s0, n0, ⟨y1, y2⟩, hs0, hn0, hsame⟩
          · have dk : decide (0 < k) = false := by rw [hk0]; rfl
            have ik : ¬ (0 : Int) < (k : Int) := by rw [hk0]; decide
            clear hk0
            have p1 := xt_cell P.c0
            have p2 := xt_cell P.c1
            go_wp2_with fail
            refine wp_region_xt (by kernel_rfl) (by kernel_rfl) ?_
            repeat (go_big_quiet_step (fail))
            refine wpQuiet_nil ?_
            rintro v2 ⟨y, rfl⟩
            replace hFr := hFr.trans2 (xt_fr y) (fun _ h => by simp at h)
            replace P := P.fr (xt_fr y) (by simp)
            clear p1 p2 hR3
            generalize hB : decide (s ≤ o ∧ o ≤ e) = B at cHo HREL
            have cO := cHo B rfl
            clear hB cHo
            cases b with
            | true =>
              have p1 := P.c0
              have p2 := P.c1
              go_wp2_with fail
              go_roundw
              case rel =>
                obtain ⟨r1, r2, r3, r4, r5, r6, r7, r8⟩ := HREL.out
                exact ⟨k + 1, e + 1, true, r1, by go_num, by go_num, rfl, r2, r3, r4, by simpa using r5, .inr ⟨Nat.succ_pos k, s, _, r6, r7, r8⟩, hFr⟩
              case measure => simp [intOf]; omega
            | false =>
              have p1 := P.c0
              have p2 := P.c1
              go_wp2_with fail
              refine (cO _).mono ?_
              rintro e0 v ⟨rfl, hG⟩
              replace hFr := hFr.trans hG
              clear hG p1 p2
              go_wp2_with fail
              go_roundw
              case rel =>
                obtain ⟨r1, r2, r3, r4, r5, r6, r7, r8⟩ := HREL.out
                exact ⟨k + 1, e + 1, B, r1, by go_num, by go_num, rfl, r2, r3, r4, by simpa using r5, .inr ⟨Nat.succ_pos k, s, _, r6, r7, r8⟩, hFr⟩
              case measure => simp [intOf]; omega
          · have dk : decide (0 < k) = true := decide_eq_true hk0
            have ik : (0 : Int) < (k : Int) := by omega
            have ik1 : (1 : Int) ≤ (k : Int) := by omega
            have ik2 : 0 ≤ (k : Int) - 1 ∧ (k : Int) - 1 < N := by omega
            have wk1 : IntKind.i64.wrap ((k : Int) - 1) = (k : Int) - 1 := i64_of (by omega) (by omega)
            have tk : ((k : Int) - 1).toNat = k - 1 := by omega
            have z1 := rdc hR3 _ _ y1
            have z2 := rdc hR3 _ _ y2
            rw [← Nat.add_assoc] at z2
            have p1 := xt_cell P.c0
            have p2 := xt_cell P.c1
            have xz1 := xt_cell z1
            have xz2 := xt_cell z2
            by_cases hnn : n0 = n
            rotate_left
            · have bn : ((n0 : Int) == (n : Int)) = false := by rw [beq_eq_false_iff_ne]; omega
              clear hnn hsame y1 y2
              go_wp2_with fail
              refine wp_region_xt (by kernel_rfl) (by kernel_rfl) ?_
              repeat (go_big_quiet_step (fail))
              refine wpQuiet_nil ?_
              rintro v2 ⟨y, rfl⟩
              replace hFr := hFr.trans2 (xt_fr y) (fun _ h => by simp at h)
              replace P := P.fr (xt_fr y) (by simp)
              clear p1 p2 hR3 xz1 xz2 z1 z2 tk
              generalize hB : decide (s ≤ o ∧ o ≤ e) = B at cHo HREL
              have cO := cHo B rfl
              clear hB cHo
              cases b with
              | true =>
                have p1 := P.c0
                have p2 := P.c1
                go_wp2_with fail
                go_roundw
                case rel =>
                  obtain ⟨r1, r2, r3, r4, r5, r6, r7, r8⟩ := HREL.out
                  exact ⟨k + 1, e + 1, true, r1, by go_num, by go_num, rfl, r2, r3, r4, by simpa using r5, .inr ⟨Nat.succ_pos k, s, _, r6, r7, r8⟩, hFr⟩
                case measure => simp [intOf]; omega
              | false =>
                have p1 := P.c0
                have p2 := P.c1
                go_wp2_with fail
                refine (cO _).mono ?_
                rintro e0 v ⟨rfl, hG⟩
                replace hFr := hFr.trans hG
                clear hG p1 p2
                go_wp2_with fail
                go_roundw
                case rel =>
                  obtain ⟨r1, r2, r3, r4, r5, r6, r7, r8⟩ := HREL.out
                  exact ⟨k + 1, e + 1, B, r1, by go_num, by go_num, rfl, r2, r3, r4, by simpa using r5, .inr ⟨Nat.succ_pos k, s, _, r6, r7, r8⟩, hFr⟩
                case measure => simp [intOf]; omega
            · obtain ⟨hn1, hnot⟩ := hsame hnn
              subst hnn
              have hn32 := HW.out.1.1
              have hpc : pcut s (n0 - 1) < 4294967296 := Nat.lt_of_le_of_lt (pcut_le s _) hs32
              have cC : ∀ W, Calls Tryd.prog 8 #[.int .u32 s, .int .u8 ((n0 : Int) - 1)] W fun e' w' => e' = .returned (.tuple #[.agg #[.int .u32 (pcut s (n0 - 1)), .int .u8 ((n0 : Int) - 1)], .int .i64 0]) ∧ Fr [] W w' := fun W => by
                have h := cut_yes s (n0 - 1) hs32 (by omega) W
                rwa [show ((n0 - 1 : Nat) : Int) = (n0 : Int) - 1 by omega] at h
              have cI : ∀ W, Calls Tryd.prog 19 #[.agg #[.int .u32 s0, .int .u8 n0], .agg #[.int .u32 (pcut s (n0 - 1)), .int .u8 ((n0 : Int) - 1)]] W fun e' w' => e' = .returned (.bool false) ∧ Fr [] W w' := fun W => by
                have h := inside_any s0 n0 (pcut s (n0 - 1)) (n0 - 1) hs0 (by omega) hpc (by omega) W
                rw [decide_eq_false hnot] at h
                rwa [show ((n0 - 1 : Nat) : Int) = (n0 : Int) - 1 by omega] at h
              have wn : IntKind.u8.wrap ((n0 : Int) - 1) = (n0 : Int) - 1 := by rw [IntKind.wrap_u8]; omega
              have in1 : (1 : Int) ≤ (n0 : Int) := by omega
              have in2 : 0 ≤ (n0 : Int) - 1 := by omega
              generalize pcut s (n0 - 1) = pc at cC cI
              clear hnot hpc
              go_wp2_with fail
              refine wp_region_xt (by kernel_rfl) (by kernel_rfl) ?_
              repeat (go_big_quiet_step (fail))
              refine wpQuiet_nil ?_
              rintro v2 ⟨y, rfl⟩
              replace hFr := hFr.trans2 (xt_fr y) (fun _ h => by simp at h)
              replace P := P.fr (xt_fr y) (by simp)
              replace hR3 := hR3.fr (xt_fr y) (by simp)
              clear p1 p2 xz1 xz2 z1 z2
              have p1 := P.c0
              have p2 := P.c1
              go_wp2_with fail
              refine (cC _).mono ?_
              rintro e0 v3 ⟨rfl, hG⟩
              replace hFr := (hFr.trans hG).alloc (.cells #[.int .u32 pc, .int .u8 ((n0 : Int) - 1)] 34)
              have U := pc_new v3 pc ((n0 : Int) - 1) 34
              replace P := (P.fr hG (by simp)).fr ((Fr.refl [] v3).alloc (.cells #[.int .u32 pc, .int .u8 ((n0 : Int) - 1)] 34)) (by simp)
              clear p1 p2 cC hG hR3
              go_upto_region 17 with fail
              generalize v3.alloc (.cells #[.int .u32 pc, .int .u8 ((n0 : Int) - 1)] 34) = v4 at hFr U P ⊢
              generalize v3.heap.size = gu at U ⊢
              have hR4 := hR.fr hFr (by simp)
              have z1 := xt_cell (rdc hR4 _ _ y1)
              have z2 := rdc hR4 _ _ y2
              rw [← Nat.add_assoc] at z2
              have z2 := xt_cell z2
              have u1 := xt_cell U.c0
              have u2 := xt_cell U.c1
              refine wp_region_xt (by kernel_rfl) (by kernel_rfl) ?_
              repeat (go_big_quiet_step ((go_at_call 19; exact Calls.xt (fun W' _ => cI W') _)))
              refine wpQuiet_nil ?_
              rintro v5 ⟨y, rfl⟩
              replace hFr := hFr.trans2 (xt_fr y) (fun _ h => by simp at h)
              replace P := P.fr (xt_fr y) (by simp)
              clear z1 z2 u1 u2 U hR4 y1 y2 tk cI
              generalize hB : decide (s ≤ o ∧ o ≤ e) = B at cHo HREL
              have cO := cHo B rfl
              clear hB cHo
              cases b with
              | true =>
                have p1 := P.c0
                have p2 := P.c1
                go_wp2_with fail
                go_roundw
                case rel =>
                  obtain ⟨r1, r2, r3, r4, r5, r6, r7, r8⟩ := HREL.out
                  exact ⟨k + 1, e + 1, true, r1, by go_num, by go_num, rfl, r2, r3, r4, by simpa using r5, .inr ⟨Nat.succ_pos k, s, _, r6, r7, r8⟩, hFr⟩
                case measure => simp [intOf]; omega
              | false =>
                have p1 := P.c0
                have p2 := P.c1
                go_wp2_with fail
                refine (cO _).mono ?_
                rintro e0 v ⟨rfl, hG⟩
                replace hFr := hFr.trans hG
                clear hG p1 p2
                go_wp2_with fail
                go_roundw
                case rel =>
                  obtain ⟨r1, r2, r3, r4, r5, r6, r7, r8⟩ := HREL.out
                  exact ⟨k + 1, e + 1, B, r1, by go_num, by go_num, rfl, r2, r3, r4, by simpa using r5, .inr ⟨Nat.succ_pos k, s, _, r6, r7, r8⟩, hFr⟩
                case measure => simp [intOf]; omega
      · obtain rfl : k = N := by omega
        have hs1 := covAt_end hA HN.out
        have hbb := hb
        have wt : IntKind.u64.wrap (t : Int) = t := by rw [IntKind.wrap_u64]; omega
        have wt1 : IntKind.u64.wrap ((t : Int) + 1) = (t : Int) + 1 := by rw [IntKind.wrap_u64]; omega
        subst hs1
        clear hA hpr hb hfs hst
        have hlt2 : ¬ (k : Int) < (k : Int) := by omega
        by_cases h1 : f ≤ o
        · have d1 : decide (f ≤ o) = true := decide_eq_true h1
          by_cases h2 : o ≤ t
          · have d2 : decide (o ≤ t) = true := decide_eq_true h2
            obtain rfl : b = true := hbb.2 ⟨h1, by omega⟩
            clear hbb
            go_wp2_with fail
            go_ret
            exact ⟨rfl, hF.trans hFr⟩
          · have d2 : decide (o ≤ t) = false := decide_eq_false h2
            obtain rfl : b = false := by
              cases b with
              | false => rfl
              | true => exact absurd (hbb.1 rfl).2 (by omega)
            clear hbb
            go_wp2_with fail
            go_ret
            exact ⟨rfl, hF.trans hFr⟩
        · have d1 : decide (f ≤ o) = false := decide_eq_false h1
          obtain rfl : b = false := by
            cases b with
            | false => rfl
            | true => exact absurd (hbb.1 rfl).1 h1
          clear hbb
          go_wp2_with fail
          go_ret
          exact ⟨rfl, hF.trans hFr⟩
end Go.Proofs.YteblkheodjibbaaDoor
