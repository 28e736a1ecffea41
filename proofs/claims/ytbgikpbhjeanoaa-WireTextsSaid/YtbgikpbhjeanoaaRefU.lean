/- The reference's Unhex. -/
import Derived.Test.YtbgikpbhjeanoaaRefT
import Derived.Deep.RegionLaw
namespace Go.Proofs.Ytbgikpbhjeanoaa
open Go.RowKit

theorem runhex_long (s : ByteArray) (w : World) (hs : 262144 < s.size) :
    Calls Try.prog 50 #[.string s] w fun e w' => e = .returned (.tuple #[.slice none 0 0, .int .i64 3]) ∧ w = w' := by
  have hs' : (262144 : Int) < (s.size : Int) := by omega
  go_enter Try.func50, Try.ntmps50
  go_wp2
  go_ret2
  exact ⟨rfl, rfl⟩

/-- What the reference makes of a string that is not too long. -/
def RUnhP (w : World) (s : ByteArray) (e : Ending) (w' : World) : Prop :=
  ((s.size % 2 = 0 ∧ AllDig s.data.toList ∧ ∃ u, e = .returned (.tuple #[u, .int .i64 0]) ∧ w'.ownsRow w.heap.size 5 1 u (s.size / 2) (B8 (decK s.data.toList (s.size / 2)))) ∨
   ((s.size % 2 = 1 ∨ ¬ AllDig s.data.toList) ∧ e = .returned (.tuple #[.slice none 0 0, .int .i64 10]))) ∧ Fr [] w w'

theorem pb_val (a b : UInt8) (ha : 0 ≤ dg a) (hb : 0 ≤ dg b) : ((pb a b).toNat : Int) = 16 * dg a + dg b := by
  have h1 := dg_lt a
  have h2 := dg_lt b
  unfold pb
  simp only [UInt8.toNat_ofNat']
  omega

set_option maxRecDepth 20000 in
set_option maxHeartbeats 4000000 in
theorem runhex_any (s : ByteArray) (w : World) (hs : s.size ≤ 262144) :
    Calls Try.prog 50 #[.string s] w (RUnhP w s) := by
  have hs' : ¬ ((262144 : Int) < (s.size : Int)) := by omega
  go_enter Try.func50, Try.ntmps50
  go_wp2
  go_loopw [4, 5] (fun v i wr => ∃ k : Nat, 2 * k ≤ s.size + 1 ∧ (2 * k ≤ s.size) ∧ i = .int .i64 (2 * (k : Int)) ∧ wr.ownsRow w.heap.size 5 1 v k (B8 (decK s.data.toList k)) ∧ (∀ i, i < 2 * k → 0 ≤ dg (s.data.toList.getD i 0)) ∧ Fr [] w wr) (fun _ i _ => s.size + 2 - (intOf i).toNat)
  case atStart => exact ⟨0, Nat.zero_le _, Nat.zero_le _, rfl, World.ownsRow_nil _ _ _ _, fun i h => by omega, Fr.refl _ _⟩
  case round =>
    obtain ⟨k, -, hk, rfl, hown, hok, hFr⟩ := hrel
    by_cases hlt : 2 * k < s.size
    · have hlt' : 2 * (k : Int) < (s.size : Int) := by omega
      have hq1 : (2 * (k : Int)).toNat < s.size := by omega
      have hn1 : (2 * (k : Int)).toNat = 2 * k := by omega
      have hn2 : (2 * (k : Int) + 1).toNat = 2 * k + 1 := by omega
      have hw1 : IntKind.i64.wrap (2 * (k : Int)) = 2 * (k : Int) := IntWalk.i64_in _ (by omega)
      have hw2 : IntKind.i64.wrap (2 * (k : Int) + 1) = 2 * (k : Int) + 1 := IntWalk.i64_in _ (by omega)
      have hw3 : IntKind.i64.wrap (2 * (k : Int) + 2) = 2 * (k : Int) + 2 := IntWalk.i64_in _ (by omega)
      have hL : s.data.toList.length = s.size := by rw [Array.length_toList]; rfl
      by_cases hodd : 2 * k + 1 = s.size
      · have hb : ((2 * (k : Int) + 1) == (s.size : Int)) = true := by rw [beq_iff_eq]; omega
        have hodd2 : s.size % 2 = 1 := by omega
        go_wp2
        go_ret2
        exact ⟨.inr ⟨.inl hodd2, rfl⟩, hFr⟩
      · have hb : ((2 * (k : Int) + 1) == (s.size : Int)) = false := by rw [beq_eq_false_iff_ne]; omega
        have hq2 : (2 * (k : Int) + 1).toNat < s.size := by omega
        have hi1 : 2 * (k : Int) + 1 < (s.size : Int) := by omega
        have hs1 : s[(2 * (k : Int)).toNat]'hq1 = s.data.toList.getD (2 * k) 0 := by rw [str_get]; rw [hn1]
        have hs2 : s[(2 * (k : Int) + 1).toNat]'hq2 = s.data.toList.getD (2 * k + 1) 0 := by rw [str_get]; rw [hn2]
        generalize hga : s.data.toList.getD (2 * k) 0 = ca at hs1
        generalize hgb : s.data.toList.getD (2 * k + 1) 0 = cb at hs2
        have HGA := Lib.hid hga
        have HGB := Lib.hid hgb
        clear hga hgb hn1 hn2
        go_wp2_with fail
        refine (rdigit_any ca wr).mono ?_
        rintro e w' ⟨rfl, rfl⟩
        by_cases hda : 0 ≤ dg ca
        · have hd1 : decide (dg ca < 0) = false := by simp; omega
          go_wp2_with fail
          refine (rdigit_any cb wr).mono ?_
          rintro e w' ⟨rfl, rfl⟩
          by_cases hdb : 0 ≤ dg cb
          · have hd2 : decide (dg cb < 0) = false := by simp; omega
            have hla := dg_lt ca
            have hlb := dg_lt cb
            have hv := pb_val ca cb hda hdb
            have hv0 := (pb ca cb).toNat_lt
            have hv1 : IntKind.i64.wrap (16 * dg ca) = 16 * dg ca := IntWalk.i64_in _ (by omega)
            have hv2 : IntKind.i64.wrap (16 * dg ca + dg cb) = 16 * dg ca + dg cb := IntWalk.i64_in _ (by omega)
            have hv3 : IntKind.u8.wrap (16 * dg ca + dg cb) = 16 * dg ca + dg cb := by simp only [IntKind.wrap, IntKind.bits, IntKind.signed]; simp; omega
            have hszr := hFr.size
            obtain ⟨v1, w1, hr1, ho1, hg1, -⟩ := app_run el8 (wr.alloc (.cells #[.int .u8 (pb ca cb).toNat] 5)).drew w.heap.size 22 _ k _ (own_alk (hown.alloc _) rfl)
              (some ⟨wr.heap.size, 0, none⟩) 1 1 (B8 [pb ca cb]) rfl (rd_new wr _ _ 1) (B8_one _) (by simp) (by unfold maxLen; omega) (by omega) (by simp; omega)
            have hFr1 : Fr [] w w1 := ((hFr.alloc _).drew).grown hg1 (fun g hgg => .inr (hown.lt g hgg).1)
            have hfin : w1.ownsRow w.heap.size 5 1 v1 (k + 1) (B8 (decK s.data.toList (k + 1))) := by
              rw [decK_succ, HGA.out, HGB.out, B8_append]
              exact ho1
            have hok1 : ∀ i, i < 2 * (k + 1) → 0 ≤ dg (s.data.toList.getD i 0) := by
              intro i hi
              rcases Nat.lt_or_ge i (2 * k) with h | h
              · exact hok i h
              · rcases (show i = 2 * k ∨ i = 2 * k + 1 from by omega) with rfl | rfl
                · rw [HGA.out]; exact hda
                · rw [HGB.out]; exact hdb
            have HO1 := Lib.hid hfin
            have HK1 := Lib.hid hok1
            clear ho1 hg1 hfin hok hok1 hown hFr
            rw [hv] at hr1
            have hp1 : (0 : Int) ≤ 2 * (k : Int) := by omega
            have hp2 : (0 : Int) ≤ 2 * (k : Int) + 1 := by omega
            have HP : Hid (2 * (k + 1) ≤ s.size) := by show _ ≤ _; omega
            clear hs hs' hk hlt hL hodd hda hdb hla hlb hv hv0 hszr HGA HGB
            go_wp2_with fail
            clear hb hd1 hd2
            refine wp_region_any (by kernel_rfl) ?_
            change wpAny _ _ _ _ _ _ _ (World.drew _)
            refine wpAny_take (i := 0) (v := ?_) rfl (by kernel_rfl) (by kernel_rfl) (by kernel_rfl) (fun _ _ _ h => h) (Or.inl ⟨by rfl, ?_⟩) ?_
            rotate_left 1
            · intro w; go_simp; with_reducible rfl
            refine wpAny_take (i := 1) (v := ?_) rfl (by kernel_rfl) (by kernel_rfl) (by kernel_rfl) (fun _ _ _ h => h) (Or.inl ⟨by rfl, ?_⟩) ?_
            rotate_left 1
            · intro w; go_simp; with_reducible rfl
            refine wpAny_take (i := 2) (v := ?_) rfl (by kernel_rfl) (by kernel_rfl) (by kernel_rfl) (fun _ _ _ h => h) (Or.inl ⟨by rfl, ?_⟩) ?_
            rotate_left 1
            · intro w; go_simp; with_reducible rfl
            refine wpAny_take (i := 3) (v := ?_) rfl (by kernel_rfl) (by kernel_rfl) (by kernel_rfl) (fun _ _ _ h => h) (Or.inl ⟨by rfl, ?_⟩) ?_
            rotate_left 1
            · intro w; go_simp; with_reducible rfl
            refine wpAny_take (i := 6) (v := ?_) rfl (by kernel_rfl) (by kernel_rfl) (by kernel_rfl) (fun _ _ _ h => h) (Or.inl ⟨by rfl, ?_⟩) ?_
            rotate_left 1
            · intro w; go_simp; with_reducible rfl
            refine wpAny_take (i := 7) (v := ?_) rfl (by kernel_rfl) (by kernel_rfl) (by kernel_rfl) (fun _ _ _ h => h) (Or.inl ⟨by rfl, ?_⟩) ?_
            rotate_left 1
            · intro w; go_simp; with_reducible rfl
            refine wpAny_take (i := 8) (v := ?_) rfl (by kernel_rfl) (by kernel_rfl) (by kernel_rfl) (fun _ _ _ h => h) (Or.inl ⟨by rfl, ?_⟩) ?_
            rotate_left 1
            · intro w; go_simp; with_reducible rfl
            refine wpAny_take (i := 9) (v := ?_) rfl (by kernel_rfl) (by kernel_rfl) (by kernel_rfl) (fun _ _ _ h => h) (Or.inl ⟨by rfl, ?_⟩) ?_
            rotate_left 1
            · intro w; go_simp; with_reducible rfl
            refine wpAny_ready (rs := [4]) (by kernel_rfl) (by simp) ?_
            refine AllReady.cons rfl (fun K hK => ?_) AllReady.nil
            go_simp
            refine (rdigit_any ca _).mono ?_
            rintro e w' ⟨rfl, rfl⟩
            refine hK _ _ ?_
            clear hK K
            refine wpAny_take (i := 5) (v := ?_) rfl (by kernel_rfl) (by kernel_rfl) (by kernel_rfl) (fun _ _ _ h => h) (Or.inl ⟨by rfl, ?_⟩) ?_
            rotate_left 1
            · intro w; go_simp; with_reducible rfl
            refine wpAny_ready (rs := [10]) (by kernel_rfl) (by simp) ?_
            refine AllReady.cons rfl (fun K hK => ?_) AllReady.nil
            go_simp
            refine (rdigit_any cb _).mono ?_
            rintro e w' ⟨rfl, rfl⟩
            refine hK _ _ ?_
            clear hK K
            refine wpAny_take (i := 11) (v := ?_) rfl (by kernel_rfl) (by kernel_rfl) (by kernel_rfl) (fun _ _ _ h => h) (Or.inl ⟨by rfl, ?_⟩) ?_
            rotate_left 1
            · intro w; go_simp; with_reducible rfl
            refine wpAny_take (i := 12) (v := ?_) rfl (by kernel_rfl) (by kernel_rfl) (by kernel_rfl) (fun _ _ _ h => h) (Or.inl ⟨by rfl, ?_⟩) ?_
            rotate_left 1
            · intro w; go_simp; with_reducible rfl
            refine wpAny_ready (rs := [13]) (by kernel_rfl) (by simp) ?_
            refine AllReady.cons rfl (fun K hK => ?_) AllReady.nil
            go_simp
            refine hK _ _ ?_
            clear hK K
            refine wpAny_ready (rs := [14]) (by kernel_rfl) (by simp) ?_
            refine AllReady.cons rfl (fun K hK => ?_) AllReady.nil
            refine step_app rfl _ _ _ rfl hr1 rfl rfl ?_
            refine hK _ _ ?_
            clear hK K
            refine wpAny_ready (rs := [15]) (by kernel_rfl) (by simp) ?_
            refine AllReady.cons rfl (fun K hK => ?_) AllReady.nil
            go_simp
            refine hK _ _ ?_
            clear hK K
            refine wpAny_done (by kernel_rfl) ?_ _
            go_wp2
            go_roundw
            all_goals have hp := HP.out
            all_goals first
              | exact ⟨k + 1, by omega, by omega, by go_num, HO1.out, HK1.out, hFr1⟩
              | (simp [intOf]; omega)
          · have hd2 : decide (dg cb < 0) = true := by simp; omega
            have hbad : ¬ AllDig s.data.toList := by
              intro h
              have h1 := h (2 * k + 1) (by omega)
              rw [HGB.out] at h1
              exact hdb h1
            go_wp2_with fail
            go_ret2
            exact ⟨.inr ⟨.inr hbad, rfl⟩, hFr⟩
        · have hd1 : decide (dg ca < 0) = true := by simp; omega
          have hbad : ¬ AllDig s.data.toList := by
            intro h
            have h1 := h (2 * k) (by omega)
            rw [HGA.out] at h1
            exact hda h1
          go_wp2_with fail
          go_ret2
          exact ⟨.inr ⟨.inr hbad, rfl⟩, hFr⟩
    · have hkk : s.size / 2 = k := by omega
      have hlt' : ¬ (2 * (k : Int) < (s.size : Int)) := by omega
      have hL : s.data.toList.length = s.size := by rw [Array.length_toList]; rfl
      have hall : AllDig s.data.toList := fun i hi => hok i (by omega)
      have hev : s.size % 2 = 0 := by omega
      clear hok
      go_wp2
      go_ret2
      exact ⟨.inl ⟨hev, hall, _, rfl, by rw [hkk]; exact hown⟩, hFr⟩
end Go.Proofs.Ytbgikpbhjeanoaa
