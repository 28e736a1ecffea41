/- IpAgain. -/
import Derived.Test.YtdanfnfmckepbaaIpa
namespace Go.Proofs.Ytdanfnfmckepbaa
open Go.RowKit
set_option linter.unusedVariables false
set_option maxRecDepth 100000

theorem set_pk (h : Hd) (t c : Nat) (d : List UInt8) : ((pk h t c ++ d).set 10 0).set 11 0 = pk h t 0 ++ d := rfl
theorem again_eq {xs : List UInt8} (g : Good xs) : (wd xs 10 ≠ 65535 ∧ wrN (hdOf xs) ((xs.take (totN xs)).drop (szN xs)) = xs.take (totN xs)) ∨ (wd xs 10 = 65535 ∧ wrN (hdOf xs) ((xs.take (totN xs)).drop (szN xs)) = ((xs.take (totN xs)).set 10 0).set 11 0) := by
  have hs := g.sz
  have ht := g.tot
  obtain ⟨h1, h2⟩ := pk_of g
  have hd : ((xs.take (totN xs)).drop (szN xs)).length = totN xs - szN xs := by rw [List.length_drop, List.length_take]; omega
  have e : wrN (hdOf xs) ((xs.take (totN xs)).drop (szN xs)) = pk (hdOf xs) (totN xs) (ckN (hdOf xs) (totN xs)) ++ (xs.take (totN xs)).drop (szN xs) := by
    unfold wrN hdrN
    rw [hd, h2, show 20 + (szN xs - 20) + (totN xs - szN xs) = totN xs by omega]
  have e2 : xs.take (totN xs) = pk (hdOf xs) (totN xs) (wd xs 10) ++ (xs.take (totN xs)).drop (szN xs) := by
    have h3 := List.take_append_drop (szN xs) (xs.take (totN xs))
    rw [List.take_take, Nat.min_eq_left ht.1, h1] at h3
    exact h3.symm
  rcases ck_of g with ⟨h3, h4⟩ | ⟨h3, h4⟩
  · refine .inl ⟨h3, ?_⟩
    rw [e, h4]; exact e2.symm
  · refine .inr ⟨h3, ?_⟩
    rw [e, h4]
    generalize hD : (xs.take (totN xs)).drop (szN xs) = D at e2 ⊢
    rw [e2, set_pk]

set_option maxHeartbeats 8000000 in
theorem again_any (A : Option Addr) (n c : Nat) (xs : List UInt8) (w : World) (hl : xs.length = n) (hrd : Rd w A (B8 xs)) (hnil : A = none → c = 0) (hnc : n ≤ c) (hcm : c ≤ 9223372036854775807) :
    Calls Try.prog 4 #[.slice A n c] w fun e w' => e = .returned (.bool true) ∧ Fr [] w w' := by
  have cA := awake5 w
  by_cases hn : n ≤ 400
  · have d0 : decide ((400 : Int) < (n : Int)) = false := decide_eq_false (by omega)
    by_cases hf : faultN xs = 0
    · have g := good_of hf
      have hsz := g.sz
      have htt := g.tot
      have hlen := g.len
      have hz60 := szN_le xs
      have hlo := (pk_of g).2
      have f0 := fits_of g
      have hEq := again_eq g
      obtain ⟨x10, hx10, e10⟩ := bt_get (xs := xs) (k := 10) (by omega)
      obtain ⟨x11, hx11, e11⟩ := bt_get (xs := xs) (k := 11) (by omega)
      have hw10 : wd xs 10 = 256 * x10.toNat + x11.toNat := by unfold wd; rw [e10, e11]
      rw [hw10] at hEq
      have hRi := g.right
      have hdl : ((xs.take (totN xs)).drop (szN xs)).length = totN xs - szN xs := by rw [List.length_drop, List.length_take]; omega
      have htl : (xs.take (totN xs)).length = totN xs := by rw [List.length_take]; omega
      have y10 : (xs.take (totN xs))[10]? = some x10 := by rw [List.getElem?_take, if_pos (by omega)]; exact hx10
      have y11 : (xs.take (totN xs))[11]? = some x11 := by rw [List.getElem?_take, if_pos (by omega)]; exact hx11
      obtain ⟨b, o, rfl⟩ := rd_addr8 hrd (by omega)
      obtain ⟨E, hE⟩ : ∃ E : Option Addr, E = if c = szN xs then some ⟨b, o, none⟩ else some ⟨b, o + szN xs, none⟩ := ⟨_, rfl⟩
      have hEn : E = none → c - szN xs = 0 := by intro e; rw [hE] at e; split at e <;> cases e
      have hif := hE.symm
      have hrdD : ∀ W, Fr [] w W → Rd W E (B8 ((xs.take (totN xs)).drop (szN xs))) := fun W hW => by
        rw [hE]
        have h1 := ((hrd.fr hW (by simp)).take (totN xs))
        rw [B8_take] at h1
        refine rd_ite (fun e => ?_) (fun _ => rd_drop' h1 _)
        have : (xs.take (totN xs)).drop (szN xs) = [] := List.drop_of_length_le (by rw [List.length_take]; omega)
        rw [this]; exact Rd.nil _ _
      have hrdT : ∀ W, Fr [] w W → Rd W (some ⟨b, o, none⟩) (B8 (xs.take (totN xs))) := fun W hW => by
        rw [← B8_take]; exact (hrd.fr hW (by simp)).take _
      have cR := fun W (hW : Fr [] w W) => read_yes (some ⟨b, o, none⟩) n c xs W hl (hrd.fr hW (by simp)) hnc (by omega) g
      have cI := fun A' c' W => right5_any (hdOf xs) A' (szN xs - 20) c' ((totN xs : Int) - szN xs) W hlo (by omega) f0.b.off
      rw [hRi] at cI
      have d1 : decide ((szN xs : Int) < 20) = false := decide_eq_false (by omega)
      have d2 : decide ((totN xs : Int) < (szN xs : Int)) = false := decide_eq_false (by omega)
      have d2' : decide (totN xs < szN xs) = false := decide_eq_false (by omega)
      have d3 : decide ((n : Int) < (totN xs : Int)) = false := decide_eq_false (by omega)
      have d3' : decide (n < totN xs) = false := decide_eq_false (by omega)
      have w1 : IntKind.i64.wrap ((totN xs : Int) - (szN xs : Int)) = (totN xs : Int) - (szN xs : Int) := IntWalk.i64_in _ (by omega)
      have b1 : (0 : Int) ≤ (szN xs : Int) ∧ (szN xs : Int) ≤ (totN xs : Int) ∧ (totN xs : Int) ≤ (c : Int) := by omega
      have b2 : (szN xs : Int) ≤ (totN xs : Int) := by omega
      have b3 : (totN xs : Int) ≤ (c : Int) := by omega
      have t20 : 20 ≤ totN xs := by omega
      have tn : totN xs ≤ 400 := by omega
      have i10 : (10 : Int) < (totN xs : Int) := by omega
      have i11 : (11 : Int) < (totN xs : Int) := by omega
      have HR := Lib.hid cR
      have HI := Lib.hid cI
      have HF0 := Lib.hid f0
      have HLO := Lib.hid hlo
      have HDL := Lib.hid hdl
      have HTL := Lib.hid htl
      have HRD := Lib.hid hrdD
      have HRT := Lib.hid hrdT
      have HEN := Lib.hid hEn
      have HEQ := Lib.hid hEq
      have Y10 := Lib.hid y10
      have Y11 := Lib.hid y11
      have xl10 := x10.toNat_lt
      have xl11 := x11.toNat_lt
      clear cR cI f0 hlo hdl htl hrdD hrdT hEn hE hEq y10 y11 hx10 hx11 e10 e11 hw10 hRi hl hrd hnil g hf hsz htt hlen hz60
      go_enter Try.func4, Try.ntmps4
      go_wp2_with fail
      refine cA.mono ?_
      rintro e wa ⟨rfl, hFa⟩
      clear cA
      go_wp2_with fail
      refine (HR.out _ hFa).mono ?_
      rintro e w1' ⟨A', c', rfl, o1, hF1⟩
      have cW := fun W (hW : Fr [] w1' W) => write_yes (hdOf xs) ((xs.take (totN xs)).drop (szN xs)) A' E (szN xs - 20) c' (totN xs - szN xs) (c - szN xs) W HLO.out (Rd.own (hW.own o1 (by simp))) (by
        intro e; subst e
        rcases o1.2 with ⟨h, _⟩ | ⟨_, _, _, h, _⟩
        · injection h
        · injection h with h; cases h) HDL.out (HRD.out W (hFa.trans (hF1.trans hW))) HEN.out HF0.out
      have cI := HI.out A' c'
      generalize hdOf xs = h at *
      generalize hWR : wrN h ((xs.take (totN xs)).drop (szN xs)) = L at cW
      have HWR := Lib.hid hWR
      clear hWR
      unfold HV at cW cI
      have CW := Lib.hid cW
      have CI := Lib.hid cI
      clear HR cW cI o1 HI HLO HF0 HDL HRD
      unfold HV
      have hFx := (Fr.refl [] w1').alloc (.cells #[.int .u8 h.tos, .int .u16 h.id, .bool h.df, .bool h.mf, .int .i64 h.off, .int .u8 h.ttl, .int .u8 h.proto, .int .u32 h.src, .int .u32 h.dst, .slice A' (szN xs - 20) c'] 30)
      have hBx : BoxH (w1'.alloc (.cells #[.int .u8 h.tos, .int .u16 h.id, .bool h.df, .bool h.mf, .int .i64 h.off, .int .u8 h.ttl, .int .u8 h.proto, .int .u32 h.src, .int .u32 h.dst, .slice A' (szN xs - 20) c'] 30)) w1'.heap.size h A' (szN xs - 20) c' := heap_alloc_new w1' _
      have HBX := Lib.hid hBx
      clear hBx
      go_wp2_with fail
      refine (CI.out _).mono ?_
      rintro e w2 ⟨rfl, hF2⟩
      clear CI
      have hFx2 := hFx.trans hF2
      have hS0 : HBx w1' w1'.heap.size h A' (szN xs - 20) c' w2.drew := ⟨hFx2.drew, HBX.out.fr hF2.drew (by simp)⟩
      clear HBX hFx hF2 hFx2
      go_wp2_with fail
      refine wp_region_held_drew (S := HBx w1' w1'.heap.size h A' (szN xs - 20) c') (by kernel_rfl) hS0 (fun hS => ?_)
      clear hS0
      refine wpAnyH_take (i := 0) (v := ?_) rfl (by kernel_rfl) (by kernel_rfl) (by kernel_rfl) (fun _ _ _ h => h) (Or.inl ⟨by rfl, ?_⟩) hS ?_
      rotate_left 1
      · intro w hSw; obtain ⟨_, hb⟩ := hSw; have q0 := hb.c0; have q1 := hb.c1; have q2 := hb.c2; have q3 := hb.c3; have q4 := hb.c4; have q5 := hb.c5; have q6 := hb.c6; have q7 := hb.c7; have q8 := hb.c8; have q9 := hb.c9; go_simp; with_reducible rfl
      try simp only [Act.put, List.setIfInBounds_toArray]
      refine wpAnyH_take (i := 1) (v := ?_) rfl (by kernel_rfl) (by kernel_rfl) (by kernel_rfl) (fun _ _ _ h => h) (Or.inl ⟨by rfl, ?_⟩) hS ?_
      rotate_left 1
      · intro w hSw; obtain ⟨_, hb⟩ := hSw; have q0 := hb.c0; have q1 := hb.c1; have q2 := hb.c2; have q3 := hb.c3; have q4 := hb.c4; have q5 := hb.c5; have q6 := hb.c6; have q7 := hb.c7; have q8 := hb.c8; have q9 := hb.c9; go_simp; with_reducible rfl
      try simp only [Act.put]
      refine wpAnyH_take (i := 2) (v := ?_) rfl (by kernel_rfl) (by kernel_rfl) (by kernel_rfl) (fun _ _ _ h => h) (Or.inl ⟨by rfl, ?_⟩) hS ?_
      rotate_left 1
      · intro w hSw; obtain ⟨_, hb⟩ := hSw; have q0 := hb.c0; have q1 := hb.c1; have q2 := hb.c2; have q3 := hb.c3; have q4 := hb.c4; have q5 := hb.c5; have q6 := hb.c6; have q7 := hb.c7; have q8 := hb.c8; have q9 := hb.c9; go_simp; with_reducible rfl
      try simp only [Act.put]
      refine wpAnyH_take (i := 3) (v := ?_) rfl (by kernel_rfl) (by kernel_rfl) (by kernel_rfl) (fun _ _ _ h => h) (Or.inl ⟨by rfl, ?_⟩) hS ?_
      rotate_left 1
      · intro w hSw; obtain ⟨_, hb⟩ := hSw; have q0 := hb.c0; have q1 := hb.c1; have q2 := hb.c2; have q3 := hb.c3; have q4 := hb.c4; have q5 := hb.c5; have q6 := hb.c6; have q7 := hb.c7; have q8 := hb.c8; have q9 := hb.c9; go_simp; with_reducible rfl
      try simp only [Act.put]
      refine wpAnyH_take (i := 4) (v := ?_) rfl (by kernel_rfl) (by kernel_rfl) (by kernel_rfl) (fun _ _ _ h => h) (Or.inl ⟨by rfl, ?_⟩) hS ?_
      rotate_left 1
      · intro w hSw; obtain ⟨_, hb⟩ := hSw; have q0 := hb.c0; have q1 := hb.c1; have q2 := hb.c2; have q3 := hb.c3; have q4 := hb.c4; have q5 := hb.c5; have q6 := hb.c6; have q7 := hb.c7; have q8 := hb.c8; have q9 := hb.c9; go_simp; with_reducible rfl
      try simp only [Act.put]
      refine wpAnyH_ready (rs := [5]) (by kernel_rfl) (by simp) ?_
      refine AllReadyH.cons rfl (fun K hK => ?_) AllReadyH.nil
      go_simp
      refine (CW.out _ hS.1).mono ?_
      rintro e w3 ⟨g2, c2, rfl, o3, hF3⟩
      have hGd := hS.1
      have hbase : w.heap.size ≤ _ := Nat.le_trans hFa.size (Nat.le_trans hF1.size hGd.size)
      have O3 := Lib.hid (own_ext o3 (base' := w.heap.size) hbase)
      clear o3 hbase
      refine hK.out _ _ ⟨hS.1.trans hF3, hS.2.fr hF3 (by simp)⟩ (fun hS2 => ?_)
      clear hK K
      replace hS := hS2
      clear hS2 hGd hF3
      try simp only [Act.put, List.setIfInBounds_toArray, List.set_cons_zero, List.set_cons_succ]
      refine wpAnyH_take (i := 6) (v := ?_) rfl (by kernel_rfl) (by kernel_rfl) (by kernel_rfl) (fun _ _ _ h => h) (Or.inl ⟨by rfl, ?_⟩) hS ?_
      rotate_left 1
      · intro w hSw; obtain ⟨_, hb⟩ := hSw; have q0 := hb.c0; have q1 := hb.c1; have q2 := hb.c2; have q3 := hb.c3; have q4 := hb.c4; have q5 := hb.c5; have q6 := hb.c6; have q7 := hb.c7; have q8 := hb.c8; have q9 := hb.c9; go_simp; with_reducible rfl
      try simp only [Act.put, List.setIfInBounds_toArray]
      refine wpAnyH_take (i := 7) (v := ?_) rfl (by kernel_rfl) (by kernel_rfl) (by kernel_rfl) (fun _ _ _ h => h) (Or.inl ⟨by rfl, ?_⟩) hS ?_
      rotate_left 1
      · intro w hSw; obtain ⟨_, hb⟩ := hSw; have q0 := hb.c0; have q1 := hb.c1; have q2 := hb.c2; have q3 := hb.c3; have q4 := hb.c4; have q5 := hb.c5; have q6 := hb.c6; have q7 := hb.c7; have q8 := hb.c8; have q9 := hb.c9; go_simp; with_reducible rfl
      try simp only [Act.put]
      refine wpAnyH_take (i := 8) (v := ?_) rfl (by kernel_rfl) (by kernel_rfl) (by kernel_rfl) (fun _ _ _ h => h) (Or.inl ⟨by rfl, ?_⟩) hS ?_
      rotate_left 1
      · intro w hSw; obtain ⟨_, hb⟩ := hSw; have q0 := hb.c0; have q1 := hb.c1; have q2 := hb.c2; have q3 := hb.c3; have q4 := hb.c4; have q5 := hb.c5; have q6 := hb.c6; have q7 := hb.c7; have q8 := hb.c8; have q9 := hb.c9; go_simp; with_reducible rfl
      try simp only [Act.put]
      refine wpAnyH_take (i := 9) (v := ?_) rfl (by kernel_rfl) (by kernel_rfl) (by kernel_rfl) (fun _ _ _ h => h) (Or.inl ⟨by rfl, ?_⟩) hS ?_
      rotate_left 1
      · intro w hSw; obtain ⟨_, hb⟩ := hSw; have q0 := hb.c0; have q1 := hb.c1; have q2 := hb.c2; have q3 := hb.c3; have q4 := hb.c4; have q5 := hb.c5; have q6 := hb.c6; have q7 := hb.c7; have q8 := hb.c8; have q9 := hb.c9; go_simp; with_reducible rfl
      try simp only [Act.put]
      refine wpAnyH_take (i := 10) (v := ?_) rfl (by kernel_rfl) (by kernel_rfl) (by kernel_rfl) (fun _ _ _ h => h) (Or.inl ⟨by rfl, ?_⟩) hS ?_
      rotate_left 1
      · intro w hSw; obtain ⟨_, hb⟩ := hSw; have q0 := hb.c0; have q1 := hb.c1; have q2 := hb.c2; have q3 := hb.c3; have q4 := hb.c4; have q5 := hb.c5; have q6 := hb.c6; have q7 := hb.c7; have q8 := hb.c8; have q9 := hb.c9; go_simp; with_reducible rfl
      try simp only [Act.put]
      refine wpAnyH_done (by kernel_rfl) ?_ _
      simp only [List.setIfInBounds_toArray, List.set_cons_zero, List.set_cons_succ, List.getElem_toArray, List.getElem_cons_succ, List.getElem_cons_zero]
      have hFW : Fr [] w w3 := hFa.trans (hF1.trans hS.1)
      clear hS CW hF1 hFa
      have hFe : Fr [] w3 (w3.alloc (.cells #[] 5)) := (Fr.refl _ _).alloc _
      obtain ⟨v4, w4, hr, o4, hg4, _⟩ := app_run el8 (w3.alloc (.cells #[] 5)) w3.heap.size 23 (.slice (some ⟨w3.heap.size, 0, none⟩) 0 0) 0 [] (World.ownsRow_lit w3 #[] 0 (Nat.le_refl _) (Nat.zero_le _) rfl)
        (some ⟨b, o, none⟩) (totN xs) c (B8 (xs.take (totN xs))) (by rw [B8_length, HTL.out]; omega) (HRT.out _ (hFW.trans hFe)) (B8_one _) (by simp) (by unfold maxLen; omega) (by omega) (by simp)
      have hF4 : Fr [] w3 w4 := hFe.trans2 (fr_grown hg4) (by simp [Value.ownBlock])
      simp only [List.nil_append, Nat.zero_add] at o4
      obtain ⟨g4, c4, rfl, hg4b, _, _⟩ := own_some o4 (by omega)
      have p10 := own_cell o4 (j := 10) (u := .int .u8 x10.toNat) (by rw [B8_get, Y10.out]; rfl)
      have p11 := own_cell o4 (j := 11) (u := .int .u8 x11.toNat) (by rw [B8_get, Y11.out]; rfl)
      have z10 := own_fz o4 10
      have z11 := own_fz o4 11
      have HG := Lib.hid hg4b
      have hg2lt : g2 < w3.heap.size := (O3.out.lt g2 rfl).2
      have hg24 : g2 ∉ [g4] := by simp; omega
      have O3' := Lib.hid (hF4.own O3.out (by simp))
      have hFW4 := hFW.trans hF4
      have O4 := Lib.hid o4
      clear hg4 o4 hFe O3 hF4 HRT Y10 Y11
      by_cases hff : x10.toNat = 255 ∧ x11.toNat = 255
      · have q1 : ((x10.toNat : Int) == 255) = true := by rw [beq_iff_eq]; omega
        have q2 : ((x11.toNat : Int) == 255) = true := by rw [beq_iff_eq]; omega
        have hL : Hid (L = ((xs.take (totN xs)).set 10 0).set 11 0) := by
          show _ = _
          rw [← HWR.out]
          rcases HEQ.out with ⟨h1, h2⟩ | ⟨h1, h2⟩
          · omega
          · exact h2
        have o5 := own_set (own_set O4.out 10 (.int .u8 0)) 11 (.int .u8 0)
        rw [B8_set (z := 0) _ 10 0 rfl, B8_set (z := 0) _ 11 0 rfl] at o5
        have hF5 : Fr [] w ((w4.setCell ⟨g4, 10, none⟩ (.int .u8 0)).setCell ⟨g4, 11, none⟩ (.int .u8 0)) := (hFW4.setCell (p := ⟨g4, 10, none⟩) (.inr (by have := HG.out; have := hFW.size; show w.heap.size ≤ g4; omega)) _).setCell (p := ⟨g4, 11, none⟩) (.inr (by have := HG.out; have := hFW.size; show w.heap.size ≤ g4; omega)) _
        have hF45 : Fr [g4] w4 ((w4.setCell ⟨g4, 10, none⟩ (.int .u8 0)).setCell ⟨g4, 11, none⟩ (.int .u8 0)) := ((Fr.refl [g4] w4).setCell (p := ⟨g4, 10, none⟩) (.inl (by simp)) _).setCell (p := ⟨g4, 11, none⟩) (.inl (by simp)) _
        have o3 := hF45.own O3'.out (by intro k hk; simp only [Value.ownBlock] at hk; injection hk with hk; subst hk; exact hg24)
        have cS := same_any (some ⟨g2, 0, none⟩) (some ⟨g4, 0, none⟩) L.length (totN xs) c2 c4 L (((xs.take (totN xs)).set 10 0).set 11 0) _ rfl (by rw [List.length_set, List.length_set]; exact HTL.out) (Rd.own o3) (Rd.own o5) (by rw [hL.out, List.length_set, List.length_set, HTL.out]; omega)
        unfold EqP at cS
        rw [decide_eq_true hL.out] at cS
        have CS := Lib.hid cS
        have HF5 := Lib.hid hF5
        clear cS o3 o5 hF45 hF5 hff
        go_wp2_with (at_builtin; refine wpList_app rfl _ _ _ rfl hr rfl rfl ?_)
        refine CS.out.mono ?_
        rintro e w6 ⟨rfl, hS6⟩
        go_wp2_with fail
        go_ret
        exact ⟨rfl, HF5.out.trans hS6.fr⟩
      · have hL : Hid (L = xs.take (totN xs)) := by
          show _ = _
          rw [← HWR.out]
          rcases HEQ.out with ⟨h1, h2⟩ | ⟨h1, h2⟩
          · exact h2
          · omega
        have cS := same_any (some ⟨g2, 0, none⟩) (some ⟨g4, 0, none⟩) L.length (totN xs) c2 c4 L (xs.take (totN xs)) w4 rfl HTL.out (Rd.own O3'.out) (Rd.own O4.out) (by rw [hL.out, HTL.out]; omega)
        unfold EqP at cS
        rw [decide_eq_true hL.out] at cS
        have CS := Lib.hid cS
        have HF5 := Lib.hid hFW4
        clear cS
        have hq : (((x10.toNat : Int) == 255) = true ∧ ((x11.toNat : Int) == 255) = false) ∨ ((x10.toNat : Int) == 255) = false := by
          by_cases h1 : x10.toNat = 255
          · exact .inl ⟨by rw [beq_iff_eq]; omega, by rw [beq_eq_false_iff_ne]; omega⟩
          · exact .inr (by rw [beq_eq_false_iff_ne]; omega)
        clear hff
        rcases hq with ⟨q1, q2⟩ | q1
        all_goals
          go_wp2_with (at_builtin; refine wpList_app rfl _ _ _ rfl hr rfl rfl ?_)
          refine CS.out.mono ?_
          rintro e w6 ⟨rfl, hS6⟩
          go_wp2_with fail
          go_ret
          exact ⟨rfl, HF5.out.trans hS6.fr⟩
    · have cR := fun W (hW : Fr [] w W) => read_no A n c xs W hl (hrd.fr hW (by simp)) hnc (by omega) hf
      unfold RdNo at cR
      have hd : (((faultN xs : Nat) : Int) != 0) = true := by rw [bne_iff_ne]; omega
      generalize faultN xs = z at cR hd
      have cS := fun W => same5 Hd0 none none 0 0 0 0 W rfl rfl (Rd.nil _ _) (Rd.nil _ _) (by decide)
      unfold HV Hd0 at cS
      simp only at cS
      have CR := Lib.hid cR
      have CS := Lib.hid cS
      clear cR cS hl hrd hnil hf
      go_enter Try.func4, Try.ntmps4
      go_wp2_with fail
      refine cA.mono ?_
      rintro e wa ⟨rfl, hFa⟩
      clear cA
      go_wp2_with fail
      refine (CR.out _ hFa).mono ?_
      rintro e w1' ⟨rfl, hF1⟩
      go_wp2_with fail
      refine (CS.out _).mono ?_
      rintro e w2 ⟨rfl, hF2⟩
      go_wp2_with fail
      go_ret
      exact ⟨rfl, (hFa.trans (hF1.alloc _)).trans hF2⟩
  · have d0 : decide ((400 : Int) < (n : Int)) = true := decide_eq_true (by omega)
    clear hl hrd hnil
    go_enter Try.func4, Try.ntmps4
    go_wp2_with fail
    refine cA.mono ?_
    rintro e wa ⟨rfl, hFa⟩
    go_wp2_with fail
    go_ret
    exact ⟨rfl, hFa⟩
end Go.Proofs.Ytdanfnfmckepbaa
