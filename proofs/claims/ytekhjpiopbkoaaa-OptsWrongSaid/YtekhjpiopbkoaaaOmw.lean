/- Made. -/
import Derived.Test.YtekhjpiopbkoaaaOmm
import Derived.Test.YtekhjpiopbkoaaaOaw
import Derived.Test.YtekhjpiopbkoaaaOfn
import Derived.Test.YtekhjpiopbkoaaaOag
import Derived.Deep.DeepCutAuto
import Derived.Deep.CutBlock
import Derived.Deep.LoopGhost
namespace Go.Proofs.Ytekhjpiopbkoaaa
open Go.RowKit
set_option linter.unusedVariables false
set_option maxRecDepth 100000

structure SmOk (w : World) (x : SmO) : Prop where
  rd : Rd w x.A (B8 x.bs)
  len : x.bs.length = x.n
  n : x.n ≤ 9223372036854775807
  k : x.k < 256
  m : x.m < 256
  u : x.u < 256
/-- A slice of small options reads as these. -/
def RdSm (w : World) (A : Option Addr) (l : List SmO) : Prop :=
  ∀ i x, l[i]? = some x → ∃ b off, A = some ⟨b, off, none⟩ ∧ w.cell? ⟨b, off + i * 4, none⟩ = some (.int .u8 x.k) ∧ w.cell? ⟨b, off + i * 4 + 1, none⟩ = some (.int .u8 x.m) ∧ w.cell? ⟨b, off + i * 4 + 2, none⟩ = some (.int .u8 x.u) ∧ w.cell? ⟨b, off + i * 4 + 3, none⟩ = some (.slice x.A x.n x.c) ∧ SmOk w x
theorem SmOk.fr {w w' : World} {x : SmO} (h : SmOk w x) (hF : Fr [] w w') : SmOk w' x := ⟨h.rd.fr hF (by simp), h.len, h.n, h.k, h.m, h.u⟩
theorem RdSm.fr {w w' : World} {A : Option Addr} {l : List SmO} (h : RdSm w A l) (hF : Fr [] w w') : RdSm w' A l := fun i x hi => by
  obtain ⟨b, off, hA, h1, h2, h3, h4, h5⟩ := h i x hi
  exact ⟨b, off, hA, hF.cell h1 (by simp), hF.cell h2 (by simp), hF.cell h3 (by simp), hF.cell h4 (by simp), h5.fr hF⟩
theorem RdSm.take {w : World} {A : Option Addr} {l : List SmO} (h : RdSm w A l) (m : Nat) : RdSm w A (l.take m) := fun i x hi => h i x (by
  rw [List.getElem?_take] at hi
  split at hi
  · exact hi
  · cases hi)
def MadeP6 (l : List SmO) (w : World) (e : Ending) (w' : World) : Prop :=
  ∃ (os : List Opt) (A : Option Addr) (c : Nat), e = .returned (.tuple #[.slice A os.length c, .int .i64 ((mkAll l).2.1 : Nat)]) ∧ w'.ownsRow w.heap.size 35 2 (.slice A os.length c) os.length (CO os) ∧ OO w' w.heap.size os ∧ os.map pr = (mkAll l).1 ∧ Fr [] w w'
/-- What is known between two rounds. -/
structure MW (w : World) (l : List SmO) (k : Nat) (os : List Opt) (v : Value) (W : World) : Prop where
  own : W.ownsRow (w.heap.size + 1) 35 2 v os.length (CO os)
  oo : OO W (w.heap.size + 1) os
  mp : os.map pr = (mkAll (l.take k)).1
  met : W.heap[w.heap.size]? = some (.cells ((mkAll (l.take k)).2.2.map fun x => Value.int .i64 (x : Nat)).toArray 59 (0, 0))
  fr : Fr [] w W
  sz : w.heap.size + 1 ≤ W.heap.size
theorem kind_cell (x : SmO) (wb : World) : (wb.alloc (.cells #[.int .u8 1, .int .u8 7, .int .u8 131, .int .u8 137, .int .u8 68, .int .u8 148, .int .u8 130, .int .u8 (2 + (x.u : Int) % 5)] 5)).cell? ⟨wb.heap.size, x.k % 8, none⟩ = some (.int .u8 (mkK x : Nat)) := by
  have h : x.k % 8 < 8 := Nat.mod_lt _ (by decide)
  refine new_cell wb _ _ _ _ ?_
  unfold mkK
  generalize x.k % 8 = j at h
  match j, h with
  | 0, _ => rfl
  | 1, _ => rfl
  | 2, _ => rfl
  | 3, _ => rfl
  | 4, _ => rfl
  | 5, _ => rfl
  | 6, _ => rfl
  | 7, _ => simp
/-- The option that is being made: its box, its Data in a row of its own. -/
structure DW (wo : World) (ob K : Nat) (D : List UInt8) (A : Option Addr) (c : Nat) (W : World) : Prop where
  bx : W.heap[ob]? = some (.cells #[.int .u8 K, .slice A D.length c] 35 (0, 0))
  own : W.ownsRow wo.heap.size 5 1 (.slice A D.length c) D.length (B8 D)
  fr : Fr [ob] wo W
  lt : ob < wo.heap.size
theorem f68_cell {m f : Nat} (h : [0, 1, 3].getD (m % 3) 0 = f) (wb : World) : (wb.alloc (.cells #[.int .u8 0, .int .u8 1, .int .u8 3] 5)).cell? ⟨wb.heap.size, m % 3, none⟩ = some (.int .u8 (f : Nat)) := by
  have h3 : m % 3 < 3 := Nat.mod_lt _ (by decide)
  refine new_cell wb _ _ _ _ ?_
  subst h
  generalize m % 3 = j at h3
  match j, h3 with
  | 0, _ => rfl
  | 1, _ => rfl
  | 2, _ => rfl
theorem s68_cell {m f : Nat} (h : [4, 8, 8].getD (m % 3) 0 = f) (wb : World) : (wb.alloc (.cells #[.int .i64 4, .int .i64 8, .int .i64 8] 3)).cell? ⟨wb.heap.size, m % 3, none⟩ = some (.int .i64 (f : Nat)) := by
  have h3 : m % 3 < 3 := Nat.mod_lt _ (by decide)
  refine new_cell wb _ _ _ _ ?_
  subst h
  generalize m % 3 = j at h3
  match j, h3 with
  | 0, _ => rfl
  | 1, _ => rfl
  | 2, _ => rfl
set_option maxHeartbeats 16000000 in
theorem made_lt (A : Option Addr) (n c : Nat) (l : List SmO) (w : World) (m : Nat) (hm : (if (40 : Int) < (n : Int) then (40 : Int) else (n : Int)) = (m : Int)) (hmn : m ≤ n) (hnc : n ≤ c) (h40 : m ≤ 40) (hl : l.length = m) (hrd : RdSm w A l) :
    Calls Try.prog 10 #[.slice A n c] w (MadeP6 l w) := by
  have i0 : (0 : Int) ≤ (m : Int) ∧ (m : Int) ≤ (c : Int) := by omega
  have HRD := Lib.hid hrd
  have HL := Lib.hid hl
  clear hrd hl
  go_enter Try.func10, Try.ntmps10
  go_wp2_with fail
  have hM0 : MW w l 0 [] (.slice none 0 0) (w.alloc (.cells #[.int .i64 0, .int .i64 0, .int .i64 0] 59)) := ⟨World.ownsRow_nil _ _ _ _, OO.nil _ _, rfl, heap_alloc_new w _, (Fr.refl _ _).alloc _, by simp⟩
  go_loopg [4, 5, 23] m (fun g s4 s5 s23 wr => ∃ (k : Nat) (os : List Opt), k ≤ m ∧ g = m - k ∧ s23 = .int .i64 k ∧ s5 = .int .i64 ((mkAll (l.take k)).2.1 : Nat) ∧ MW w l k os s4 wr)
  case atStart => exact ⟨0, [], Nat.zero_le _, rfl, rfl, rfl, hM0⟩
  case round =>
    obtain ⟨w1, rfl⟩ : ∃ w1, w1 = wr := ⟨_, rfl⟩
    obtain ⟨k, os, hk, rfl, rfl, rfl, hM⟩ := hrel
    clear hM0
    by_cases hlt : k < m
    · obtain ⟨x, hx⟩ : ∃ x, l[k]? = some x := ⟨_, List.getElem?_eq_getElem (by rw [HL.out]; exact hlt)⟩
      obtain ⟨b, off, rfl, p1, p2, p3, p4, p5⟩ := (HRD.out.fr hM.fr) k x hx
      have hlti : (k : Int) < (m : Int) := by omega
      have i1 : (0 : Int) ≤ (k : Int) ∧ (k : Int) < (m : Int) := by omega
      obtain ⟨vA, vc, rfl, _, _, _⟩ := own_slice hM.own
      have HM := Lib.hid hM
      have HX := Lib.hid hx
      have hxk := p5.k
      have hxm := p5.m
      have hxu := p5.u
      have HP5 := Lib.hid p5
      have hN := (mkAll_inv (l.take k)).le
      generalize hst : mkAll (l.take k) = st at hN ⊢
      have HST := Lib.hid hst
      clear hM hx p5 hst
      go_upto_region 7 with (fail)
      obtain ⟨wb, hwb⟩ : ∃ wb, wb = w1.alloc (.cells #[.int .u8 x.k, .int .u8 x.m, .int .u8 x.u, .slice x.A x.n x.c] 41) := ⟨_, rfl⟩
      have hb8 : wb.heap[w1.heap.size]? = some (.cells #[.int .u8 x.k, .int .u8 x.m, .int .u8 x.u, .slice x.A x.n x.c] 41 (0, 0)) := by rw [hwb]; exact heap_alloc_new _ _
      have hFb : Fr [] w1 wb := by rw [hwb]; exact (Fr.refl _ _).alloc _
      have hsb : wb.heap.size = w1.heap.size + 1 := by rw [hwb]; simp
      rw [← hwb]
      clear hwb
      have y0 : wb.cell? ⟨w1.heap.size, 0, none⟩ = some (.int .u8 x.k) := by simp [World.cell?, hb8]
      have y1 : wb.cell? ⟨w1.heap.size, 1, none⟩ = some (.int .u8 x.m) := by simp [World.cell?, hb8]
      have y2 : wb.cell? ⟨w1.heap.size, 2, none⟩ = some (.int .u8 x.u) := by simp [World.cell?, hb8]
      have y3 : wb.cell? ⟨w1.heap.size, 3, none⟩ = some (.slice x.A x.n x.c) := by simp [World.cell?, hb8]
      have HB8 := Lib.hid hb8
      have HFB := Lib.hid hFb
      have HSB := Lib.hid hsb
      have hlt8 : w1.heap.size < wb.heap.size := by omega
      have z0 := kind_cell x wb
      have zi : (0 : Int) ≤ (x.k : Int) % 8 ∧ (x.k : Int) % 8 < 8 := by omega
      have zt : ((x.k : Int) % 8).toNat = x.k % 8 := by omega
      clear hb8 hFb hsb p1 p2 p3 p4
      go_upto_region 9 with (fail)
      have hFo : Fr [] wb ((wb.alloc (.cells #[.int .u8 1, .int .u8 7, .int .u8 131, .int .u8 137, .int .u8 68, .int .u8 148, .int .u8 130, .int .u8 (2 + (x.u : Int) % 5)] 5)).alloc (.cells #[.int .u8 (mkK x : Nat), .slice none 0 0] 35)) := ((Fr.refl _ _).alloc _).alloc _
      have hbo : ((wb.alloc (.cells #[.int .u8 1, .int .u8 7, .int .u8 131, .int .u8 137, .int .u8 68, .int .u8 148, .int .u8 130, .int .u8 (2 + (x.u : Int) % 5)] 5)).alloc (.cells #[.int .u8 (mkK x : Nat), .slice none 0 0] 35)).heap[wb.heap.size + 1]? = some (.cells #[.int .u8 (mkK x : Nat), .slice none 0 0] 35 (0, 0)) := by
        rw [← World.size_alloc wb (.cells #[.int .u8 1, .int .u8 7, .int .u8 131, .int .u8 137, .int .u8 68, .int .u8 148, .int .u8 130, .int .u8 (2 + (x.u : Int) % 5)] 5)]
        exact heap_alloc_new _ _
      have hso : ((wb.alloc (.cells #[.int .u8 1, .int .u8 7, .int .u8 131, .int .u8 137, .int .u8 68, .int .u8 148, .int .u8 130, .int .u8 (2 + (x.u : Int) % 5)] 5)).alloc (.cells #[.int .u8 (mkK x : Nat), .slice none 0 0] 35)).heap.size = wb.heap.size + 2 := by simp
      generalize (wb.alloc (.cells #[.int .u8 1, .int .u8 7, .int .u8 131, .int .u8 137, .int .u8 68, .int .u8 148, .int .u8 130, .int .u8 (2 + (x.u : Int) % 5)] 5)).alloc (.cells #[.int .u8 (mkK x : Nat), .slice none 0 0] 35) = wo at hFo hbo hso ⊢
      have hoB := HSB.out
      generalize hob : wb.heap.size + 1 = ob at hbo ⊢
      have hB8o := hFo.blk HB8.out (by simp)
      have HFO := Lib.hid (HFB.out.trans hFo)
      have hk0 := obx0 (k := mkK x) hbo
      have HKK := Lib.hid (mkK_cases x)
      have hK8 := mkK_lt x
      have hobw : w1.heap.size < ob ∧ ob < wo.heap.size := by omega
      have HBO := Lib.hid hbo
      have HB8o := Lib.hid hB8o
      generalize hK : mkK x = K at hk0 hK8 ⊢
      have HK := Lib.hid hK
      clear y0 y1 y2 y3 z0 zi zt hFo hbo hso hoB hob hB8o hK HFB HB8 HSB
      go_upto_block 2 with (fail)
      go_cut [10, 11, 12] (fun s10 s11 s12 wx => s10 = .int .i64 (mkG K) ∧ s11 = .int .i64 (mkH K) ∧ s12 = .int .i64 (mkS K x.m) ∧ Fr [] wo wx)
      case first =>
        as_aux_lemma =>
          have b8 := HB8o.out
          have y1 : wo.cell? ⟨w1.heap.size, 1, none⟩ = some (.int .u8 x.m) := by simp [World.cell?, b8]
          clear b8
          by_cases h7 : K = 7
          · have e7 : ((K : Int) == 7) = true := by rw [h7]; rfl
            have eG : mkG K = 0 := by rw [h7]; rfl
            have eH : mkH K = 1 := by rw [h7]; rfl
            have eS : mkS K x.m = 4 := by rw [h7]; rfl
            have EG := Lib.hid eG
            have EH := Lib.hid eH
            have ES := Lib.hid eS
            clear h7 eG eH eS
            go_wp2_with fail
            go_meet
            exact ⟨by rw [EG.out], by rw [EH.out]; rfl, by rw [ES.out]; rfl, Fr.refl _ _⟩
          · have e7 : ((K : Int) == 7) = false := by rw [beq_eq_false_iff_ne]; omega
            by_cases h131 : K = 131 ∨ K = 137
            · have eG : mkG K = 1 := by unfold mkG; rw [if_neg h7, if_pos h131]
              have eH : mkH K = 1 := by unfold mkH; rw [if_neg h7, if_pos h131]
              have eS : mkS K x.m = 4 := by unfold mkS; rw [if_neg h7, if_pos h131]
              have EG := Lib.hid eG
              have EH := Lib.hid eH
              have ES := Lib.hid eS
              clear eG eH eS
              by_cases h1 : K = 131
              · have e1 : ((K : Int) == 131) = true := by rw [h1]; rfl
                clear h1 h131 h7
                go_wp2_with fail
                go_meet
                exact ⟨by rw [EG.out], by rw [EH.out]; rfl, by rw [ES.out]; rfl, Fr.refl _ _⟩
              · have e1 : ((K : Int) == 131) = false := by rw [beq_eq_false_iff_ne]; omega
                have e2 : ((K : Int) == 137) = true := by rw [beq_iff_eq]; omega
                clear h1 h131 h7
                go_wp2_with fail
                go_meet
                exact ⟨by rw [EG.out], by rw [EH.out]; rfl, by rw [ES.out]; rfl, Fr.refl _ _⟩
            · have e1 : ((K : Int) == 131) = false := by rw [beq_eq_false_iff_ne]; omega
              have e2 : ((K : Int) == 137) = false := by rw [beq_eq_false_iff_ne]; omega
              by_cases h68 : K = 68
              · have e3 : ((K : Int) == 68) = true := by rw [h68]; rfl
                have eG : mkG K = 2 := mkG_two.2 h68
                have eH : mkH K = 2 := by unfold mkH; rw [if_neg h7, if_neg h131, if_pos h68]
                obtain ⟨sz, hsz, hc⟩ := s68 x.m
                have eS : mkS K x.m = sz := by unfold mkS; rw [if_neg h7, if_neg h131, if_pos h68, hsz]
                have EG := Lib.hid eG
                have EH := Lib.hid eH
                have ES := Lib.hid eS
                clear eG eH eS h68 h131 h7 hsz
                have y1a := old_cell y1 (.cells #[.int .i64 4, .int .i64 8, .int .i64 8] 3)
                rcases hc with ⟨hc, rfl⟩ | ⟨hc, rfl⟩ | ⟨hc, rfl⟩
                · have hci : (x.m : Int) % 3 = 0 := by omega
                  clear hc
                  go_upto_region 16 with (fail)
                  go_region
                  all_goals (go_wp2_with fail; go_meet; exact ⟨by rw [EG.out], by rw [EH.out]; rfl, by rw [ES.out]; rfl, ((Fr.refl [] wo).alloc _).drew⟩)
                · have hci : (x.m : Int) % 3 = 1 := by omega
                  clear hc
                  go_upto_region 16 with (fail)
                  go_region
                  all_goals (go_wp2_with fail; go_meet; exact ⟨by rw [EG.out], by rw [EH.out]; rfl, by rw [ES.out]; rfl, ((Fr.refl [] wo).alloc _).drew⟩)
                · have hci : (x.m : Int) % 3 = 2 := by omega
                  clear hc
                  go_upto_region 16 with (fail)
                  go_region
                  all_goals (go_wp2_with fail; go_meet; exact ⟨by rw [EG.out], by rw [EH.out]; rfl, by rw [ES.out]; rfl, ((Fr.refl [] wo).alloc _).drew⟩)
              · have eG : mkG K = -1 := by unfold mkG; rw [if_neg h7, if_neg h131, if_neg h68]
                have e3 : ((K : Int) == 68) = false := by rw [beq_eq_false_iff_ne]; omega
                have eS : mkS K x.m = 1 := by unfold mkS; rw [if_neg h7, if_neg h131, if_neg h68]
                have EG := Lib.hid eG
                have ES := Lib.hid eS
                clear eG eS
                by_cases h148 : K = 148
                · have e4 : ((K : Int) == 148) = true := by rw [h148]; rfl
                  have eH : mkH K = 2 := by unfold mkH; rw [if_neg h7, if_neg h131, if_neg h68, if_pos h148]
                  have EH := Lib.hid eH
                  clear eH h148 h131 h7 h68
                  go_wp2_with fail
                  go_meet
                  exact ⟨by rw [EG.out], by rw [EH.out]; rfl, by rw [ES.out]; rfl, Fr.refl _ _⟩
                · have e4 : ((K : Int) == 148) = false := by rw [beq_eq_false_iff_ne]; omega
                  have eH : mkH K = 0 := by unfold mkH; rw [if_neg h7, if_neg h131, if_neg h68, if_neg h148]
                  have EH := Lib.hid eH
                  clear eH h148 h131 h7 h68
                  go_wp2_with fail
                  go_meet
                  exact ⟨by rw [EG.out], by rw [EH.out]; rfl, by rw [ES.out]; rfl, Fr.refl _ _⟩
      case rest =>
        obtain ⟨w2, rfl⟩ : ∃ w2, w2 = wc := ⟨_, rfl⟩
        obtain ⟨rfl, rfl, rfl, hFc⟩ := hcut
        have hlt8 := HFO.out.size
        have hbc := hFc.blk HBO.out (by simp)
        have hxc := hFc.blk HB8o.out (by simp)
        rw [HK.out] at hbc
        have hszc := hFc.size
        have k0 := obx0 (k := K) hbc
        have y1 : w2.cell? ⟨w1.heap.size, 1, none⟩ = some (.int .u8 x.m) := by simp [World.cell?, hxc]
        have HBC := Lib.hid hbc
        have HXC := Lib.hid hxc
        have HFC := Lib.hid hFc
        clear hbc hxc hFc HBO HB8o
        go_upto_region 20 with (fail)
        obtain ⟨z, hz⟩ : ∃ z, z = decide (K = 1 ∨ K = 148) := ⟨_, rfl⟩
        have HZ := Lib.hid hz
        clear hz
        go_cut [66] (fun s66 wx => s66 = .bool z ∧ w2 = wx)
        case first =>
          as_aux_lemma =>
            by_cases h1 : K = 1
            · have e1 : ((K : Int) == 1) = true := by rw [h1]; rfl
              have ED := Lib.hid (decide_eq_true (show K = 1 ∨ K = 148 from .inl h1))
              clear h1
              go_wp2_with fail
              go_meet
              exact ⟨by rw [HZ.out, ED.out], rfl⟩
            · have e1 : ((K : Int) == 1) = false := by rw [beq_eq_false_iff_ne]; omega
              by_cases h2 : K = 148
              · have e2 : ((K : Int) == 148) = true := by rw [h2]; rfl
                have ED := Lib.hid (decide_eq_true (show K = 1 ∨ K = 148 from .inr h2))
                clear h1 h2
                go_wp2_with fail
                go_meet
                exact ⟨by rw [HZ.out, ED.out], rfl⟩
              · have e2 : ((K : Int) == 148) = false := by rw [beq_eq_false_iff_ne]; omega
                have ED := Lib.hid (decide_eq_false (show ¬ (K = 1 ∨ K = 148) by omega))
                clear h1 h2
                go_wp2_with fail
                go_meet
                exact ⟨by rw [HZ.out, ED.out], rfl⟩
        case rest =>
          obtain ⟨rfl, rfl⟩ := hcut
          go_upto_if 66 with (fail)
          go_cut [13] (fun s13 wx => s13 = .int .i64 (mkN K x.m) ∧ w2 = wx)
          case first =>
            as_aux_lemma =>
              cases z with
              | true =>
                have eN : mkN K x.m = 0 := by unfold mkN; rw [if_pos (of_decide_eq_true HZ.out.symm)]
                have EN := Lib.hid eN
                clear eN
                go_wp2_with fail
                go_meet
                exact ⟨by rw [EN.out]; rfl, rfl⟩
              | false =>
                have eN : mkN K x.m = x.m % 10 := by unfold mkN; rw [if_neg (of_decide_eq_false HZ.out.symm)]
                have EN := Lib.hid eN
                clear eN
                go_wp2_with fail
                go_meet
                exact ⟨by rw [EN.out]; rfl, rfl⟩
          case rest =>
            obtain ⟨rfl, rfl⟩ := hcut
            have hH := mkH_le K
            have hN9 := mkN_le K x.m
            have hS8 := mkS_le K x.m
            have hT : mkT x = mkH K + mkN K x.m * mkS K x.m := by unfold mkT; rw [HK.out]
            have hT74 := mkT_le x
            have hNS : (mkN K x.m : Int) * (mkS K x.m : Int) = ((mkN K x.m * mkS K x.m : Nat) : Int) := by rw [Int.natCast_mul]
            generalize hPP : mkN K x.m * mkS K x.m = PP at hT hNS
            have hw1 : IntKind.i64.wrap ((mkN K x.m : Int) * (mkS K x.m : Int)) = (PP : Int) := by rw [hNS]; exact IntWalk.i64_in _ (by omega)
            have hPT : (mkH K : Int) + (PP : Int) = (mkT x : Int) := by omega
            have hw2 : IntKind.i64.wrap ((mkH K : Int) + (PP : Int)) = (mkT x : Int) := by rw [hPT]; exact IntWalk.i64_in _ (by omega)
            have HPP := Lib.hid hPP
            have HT := Lib.hid hT
            clear hPP hT hNS
            go_upto_region 23 with (fail)
            clear hw1 hw2 hPT k0 y1
            have HRX := Lib.hid (fun W (hW : Fr [ob] w2 W) => rd_past HP5.out.rd (HFO.out.trans HFC.out) hW (fun s hs => by simp at hs; omega))
            go_loopg [72] (mkT x) (fun g s72 wx => ∃ (j : Nat) (A : Option Addr) (c : Nat), j ≤ mkT x ∧ g = mkT x - j ∧ s72 = .int .i64 j ∧ DW w2 ob K ((List.range j).map (mkB x)) A c wx)
            case atStart => exact ⟨0, none, 0, Nat.zero_le _, rfl, rfl, HBC.out, World.ownsRow_nil _ _ _ _, Fr.refl _ _, lt_of_block HBC.out⟩
            case round =>
              obtain ⟨j, A, c', hj, rfl, rfl, hD⟩ := hrel
              by_cases hjl : j < mkT x
              · have hji : (j : Int) < (mkT x : Int) := by omega
                have hjr : IntKind.i64.wrap ((j : Int) + 1) = (j : Int) + 1 := IntWalk.i64_in _ (by omega)
                have hj2 : ((j : Int) + 1) = ((j + 1 : Nat) : Int) := by omega
                have HJ2 := Lib.hid hj2
                have hxb := hD.fr.blk HXC.out (by simp; omega)
                have y3 : wr.cell? ⟨w1.heap.size, 3, none⟩ = some (.slice x.A x.n x.c) := by simp [World.cell?, hxb]
                have hrx := HRX.out _ hD.fr
                obtain ⟨DD, hDD⟩ : ∃ DD, DD = (List.range j).map (mkB x) := ⟨_, rfl⟩
                have hDl : DD.length = j := by rw [hDD]; simp
                have hDs : (List.range (j + 1)).map (mkB x) = DD ++ [mkB x j] := by rw [hDD, mkD0_snoc]
                rw [← hDD] at hD
                have HDS := Lib.hid hDs
                have HDL := Lib.hid hDl
                clear hDs hDD hj2 hxb
                rcases Nat.eq_zero_or_pos x.n with hx0 | hx0
                · have hmk : ((mkB x j).toNat : Int) = (j : Int) := by
                    unfold mkB; rw [if_neg (by rw [HP5.out.len]; omega), ofNat_nat (by omega)]
                  have hbx := hD.bx
                  rw [HDL.out] at hbx
                  have q1 := obx1 hbx
                  have hown := hD.own
                  rw [HDL.out] at hown
                  have hlt2 := hD.lt
                  have hsw2 := hD.fr.size
                  have hox : ob < wr.heap.size := lt_of_block hbx
                  obtain ⟨v', w5, hr, ho5, hg5, _⟩ := app_run el8 (wr.alloc (.cells #[.int .u8 (mkB x j).toNat] 5)) w2.heap.size 27 (.slice A j c') j (B8 DD) (hown.alloc _) (some ⟨wr.heap.size, 0, none⟩) 1 1 (B8 [mkB x j]) rfl (rd_new wr [mkB x j] 5) (B8_one _) (by simp) (by simp only [maxLen]; omega) (by omega) (by rw [World.size_alloc]; omega)
                  rw [← B8_append] at ho5
                  obtain ⟨A5, c5, rfl, _, _, _⟩ := own_slice ho5
                  have hOB : ∀ t, (Value.slice A j c').ownBlock = some t → w2.heap.size ≤ t := fun t ht => (hown.lt t ht).1
                  have hF5 : Fr (Value.slice A j c').ownBlock.toList wr w5 := ((Fr.refl [] wr).alloc _).nil.trans (fr_grown hg5)
                  have hb5 := hF5.blk hbx (by simp; intro h; have := hOB _ h; omega)
                  have c51 := obx1 hb5
                  have z51 : w5.frozen? ⟨ob, 1, none⟩ = false := by simp [World.frozen?, hb5]
                  have HO5 := Lib.hid ho5
                  have HF5 := Lib.hid hF5
                  have HB5 := Lib.hid hb5
                  have HOB := Lib.hid hOB
                  have HDF := Lib.hid hD.fr
                  clear hD hbx hown ho5 hF5 hb5 hOB hg5
                  rw [hmk] at hr
                  have d0 : decide ((0 : Int) < (x.n : Int)) = false := decide_eq_false (by omega)
                  have d1 : ¬ (0 : Int) < (x.n : Int) := by omega
                  clear hmk hrx hx0
                  go_wp2_with (at_builtin; refine wpList_app rfl _ _ _ rfl hr rfl rfl ?_)
                  go_roundg (mkT x - (j + 1))
                  case measure => omega
                  case rel =>
                    have hl1 : (DD ++ [mkB x j]).length = j + 1 := by rw [List.length_append, HDL.out]; rfl
                    refine ⟨j + 1, A5, c5, by omega, rfl, by rw [HJ2.out], ?_⟩
                    rw [HDS.out]
                    refine ⟨?_, ?_, ?_, hlt2⟩
                    · rw [hl1]; simp [World.setCell, Array.getElem?_modify, HB5.out]
                    · rw [hl1]; exact ownsRow_setCell_below HO5.out (a := ⟨ob, 1, none⟩) hlt2 _
                    · exact (HDF.out.trans2 HF5.out (fun t ht => .inr (HOB.out t (by simpa using ht)))).setCell (.inl (by simp)) _
                · have hjm : j % x.n < x.n := Nat.mod_lt _ hx0
                  have hmk : mkB x j = x.bs.getD (j % x.n) 0 := by
                    unfold mkB; rw [if_pos (by rw [HP5.out.len]; exact hx0), HP5.out.len]
                  have hgx := getD_some (xs := x.bs) (k := j % x.n) (by rw [HP5.out.len]; exact hjm)
                  rw [← hmk] at hgx
                  obtain ⟨ax, hax, qx⟩ := hrx (j % x.n) (.int .u8 (mkB x j).toNat) (by rw [B8_get, hgx]; rfl)
                  obtain ⟨bb, oo, rfl⟩ : ∃ bb oo, ax = ⟨bb, oo, none⟩ := by
                    obtain ⟨bb, oo, rfl2⟩ := rd_addr8 hrx (by rw [HP5.out.len]; exact hx0)
                    rw [rfl2] at hax; injection hax with hax; exact ⟨bb, oo, hax.symm⟩
                  rw [add_pl] at qx
                  replace hD : DW w2 ob K DD A c' wr.drew := ⟨hD.bx, own_alk hD.own rfl, hD.fr.drew, hD.lt⟩
                  have hbx := hD.bx
                  rw [HDL.out] at hbx
                  have q1 := obx1 hbx
                  have hown := hD.own
                  rw [HDL.out] at hown
                  have hlt2 := hD.lt
                  have hsw2 := hD.fr.size
                  have hox : ob < wr.drew.heap.size := lt_of_block hbx
                  obtain ⟨v', w5, hr, ho5, hg5, _⟩ := app_run el8 (wr.drew.alloc (.cells #[.int .u8 (mkB x j).toNat] 5)) w2.heap.size 27 (.slice A j c') j (B8 DD) (hown.alloc _) (some ⟨wr.drew.heap.size, 0, none⟩) 1 1 (B8 [mkB x j]) rfl (rd_new wr.drew [mkB x j] 5) (B8_one _) (by simp) (by simp only [maxLen]; omega) (by omega) (by rw [World.size_alloc]; omega)
                  rw [← B8_append] at ho5
                  obtain ⟨A5, c5, rfl, _, _, _⟩ := own_slice ho5
                  have hOB : ∀ t, (Value.slice A j c').ownBlock = some t → w2.heap.size ≤ t := fun t ht => (hown.lt t ht).1
                  have hF5 : Fr (Value.slice A j c').ownBlock.toList wr.drew w5 := ((Fr.refl [] wr.drew).alloc _).nil.trans (fr_grown hg5)
                  have hb5 := hF5.blk hbx (by simp; intro h; have := hOB _ h; omega)
                  have c51 := obx1 hb5
                  have z51 : w5.frozen? ⟨ob, 1, none⟩ = false := by simp [World.frozen?, hb5]
                  have HO5 := Lib.hid ho5
                  have HF5 := Lib.hid hF5
                  have HB5 := Lib.hid hb5
                  have HOB := Lib.hid hOB
                  have HDF := Lib.hid hD.fr
                  clear hD hbx hown ho5 hF5 hb5 hOB hg5
                  have d0 : decide ((0 : Int) < (x.n : Int)) = true := decide_eq_true (by omega)
                  have d1 : (0 : Int) < (x.n : Int) := by omega
                  have m1 : Int.tmod (j : Int) (x.n : Int) = ((j % x.n : Nat) : Int) := by rw [Int.ofNat_tmod]
                  have m2 : (j : Int) % (x.n : Int) = ((j % x.n : Nat) : Int) := by rw [Int.natCast_emod]
                  have m0 : ((x.n : Int) == 0) = false := by rw [beq_eq_false_iff_ne]; omega
                  have m3 : ¬ (x.n : Int) = 0 := by omega
                  have mi : (0 : Int) ≤ ((j % x.n : Nat) : Int) ∧ ((j % x.n : Nat) : Int) < (x.n : Int) := by omega
                  generalize (mkB x j).toNat = bv at hr qx
                  rw [hax] at y3
                  have hax' : x.A = some ⟨bb, oo, none⟩ := hax
                  have HAX := Lib.hid hax'
                  clear hmk hrx hx0 hgx hax hax'
                  generalize j % x.n = jm at m1 m2 mi qx hjm
                  go_upto_region 27 with (fail)
                  go_region
                  go_wp2_with (at_builtin; refine wpList_app rfl _ _ _ rfl hr rfl rfl ?_)
                  go_roundg (mkT x - (j + 1))
                  case measure => omega
                  case rel =>
                    have hl1 : (DD ++ [mkB x j]).length = j + 1 := by rw [List.length_append, HDL.out]; rfl
                    refine ⟨j + 1, A5, c5, by omega, rfl, by rw [HJ2.out], ?_⟩
                    rw [HDS.out]
                    refine ⟨?_, ?_, ?_, hlt2⟩
                    · rw [hl1]; simp [World.setCell, Array.getElem?_modify, HB5.out]
                    · rw [hl1]; exact ownsRow_setCell_below HO5.out (a := ⟨ob, 1, none⟩) hlt2 _
                    · exact (HDF.out.trans2 HF5.out (fun t ht => .inr (HOB.out t (by simpa using ht)))).setCell (.inl (by simp)) _
              · skip
                obtain rfl : j = mkT x := by omega
                have hji : ¬ ((mkT x : Nat) : Int) < ((mkT x : Nat) : Int) := by omega
                obtain ⟨w3, rfl⟩ : ∃ w3, w3 = wr := ⟨_, rfl⟩
                have HD0 := Lib.hid (show DW w2 ob K (mkD0 x) A c' w3 from hD)
                clear hD
                obtain ⟨z1, hz1⟩ : ∃ z1, z1 = decide (0 ≤ mkG K) := ⟨_, rfl⟩
                obtain ⟨z2, hz2⟩ : ∃ z2, z2 = (mkG K == 2) := ⟨_, rfl⟩
                have d1 := hz1.symm
                have HZ1 := Lib.hid hz1
                have HZ2 := Lib.hid hz2
                clear hz1 hz2
                go_upto_if 98 with (fail)
                clear d1
                go_cut [] (fun wx => ∃ A c, DW w2 ob K (mkD1 x) A c wx)
                case first =>
                  as_aux_lemma =>
                    cases z1 with
                    | false =>
                      have e1 : mkD1 x = mkD0 x := by unfold mkD1; rw [if_neg (by rw [HK.out]; exact of_decide_eq_false HZ1.out.symm)]
                      have E1 := Lib.hid e1
                      clear e1
                      go_wp2_with fail
                      go_meet
                      exact ⟨A, c', by rw [E1.out]; exact HD0.out⟩
                    | true =>
                      have hG : 0 ≤ mkG (mkK x) := by rw [HK.out]; exact of_decide_eq_true HZ1.out.symm
                      have e1 : mkD1 x = (mkD0 x).set 0 (UInt8.ofNat (mkP x)) := by unfold mkD1; rw [if_pos hG]
                      have hT1 := mkT_pos hG
                      have hown := HD0.out.own
                      have hbx := HD0.out.bx
                      rw [mkD0_len] at hown hbx
                      obtain ⟨g, cc, hv, hg, hncc, hcm⟩ := own_some hown hT1
                      injection hv with hv1 hv2 hv3
                      subst hv1 hv3
                      have hfz := own_fz hown 0
                      have q1 := obx1 hbx
                      have hxb := HD0.out.fr.blk HXC.out (by simp; omega)
                      have y2 : w3.cell? ⟨w1.heap.size, 2, none⟩ = some (.int .u8 x.u) := by simp [World.cell?, hxb]
                      have hP := mkP_le x
                      have hPe : mkP x = 3 + mkH K + x.u % (mkN K x.m + 1) * mkS K x.m := by unfold mkP; rw [HK.out]
                      have hr9 : x.u % (mkN K x.m + 1) < mkN K x.m + 1 := Nat.mod_lt _ (by omega)
                      have t1 : Int.tmod (x.u : Int) ((mkN K x.m : Int) + 1) = ((x.u % (mkN K x.m + 1) : Nat) : Int) := by
                        rw [show ((mkN K x.m : Int) + 1) = ((mkN K x.m + 1 : Nat) : Int) by omega, Int.ofNat_tmod]
                      have t2 : (x.u : Int) % ((mkN K x.m : Int) + 1) = ((x.u % (mkN K x.m + 1) : Nat) : Int) := by
                        rw [show ((mkN K x.m : Int) + 1) = ((mkN K x.m + 1 : Nat) : Int) by omega, Int.natCast_emod]
                      have t0 : (((mkN K x.m : Int) + 1) == 0) = false := by rw [beq_eq_false_iff_ne]; omega
                      have t00 : ¬ ((mkN K x.m : Int) + 1) = 0 := by omega
                      have tw1 : IntKind.i64.wrap ((mkN K x.m : Int) + 1) = (mkN K x.m : Int) + 1 := IntWalk.i64_in _ (by omega)
                      have tw3 : IntKind.i64.wrap (3 + (mkH K : Int)) = 3 + (mkH K : Int) := IntWalk.i64_in _ (by omega)
                      generalize x.u % (mkN K x.m + 1) = rr at hPe hr9 t1 t2
                      have tm : (rr : Int) * (mkS K x.m : Int) = ((rr * mkS K x.m : Nat) : Int) := by rw [Int.natCast_mul]
                      have trl : rr * mkS K x.m ≤ 77 := by omega
                      generalize rr * mkS K x.m = RS at hPe tm trl
                      have tw4 : IntKind.i64.wrap ((rr : Int) * (mkS K x.m : Int)) = (RS : Int) := by rw [tm]; exact IntWalk.i64_in _ (by omega)
                      have tw5 : IntKind.i64.wrap (3 + (mkH K : Int) + (RS : Int)) = (mkP x : Int) := by rw [show 3 + (mkH K : Int) + (RS : Int) = (mkP x : Int) by omega]; exact IntWalk.i64_in _ (by omega)
                      have tw6 : IntKind.u8.wrap (mkP x : Int) = (mkP x : Int) := u8_in (by omega) (by omega)
                      have i0T : (0 : Int) < (mkT x : Int) := by omega
                      have hT0 : 0 < mkT x := hT1
                      obtain ⟨y0, hy0⟩ : ∃ y, (mkD0 x)[0]? = some y := ⟨_, List.getElem?_eq_getElem (by rw [mkD0_len]; exact hT1)⟩
                      have q0 : w3.cell? ⟨g, 0, none⟩ = some (.int .u8 y0.toNat) := own_cell hown (by rw [B8_get, hy0]; rfl)
                      clear hy0
                      have HOWN := Lib.hid hown
                      have HBX := Lib.hid hbx
                      have E1 := Lib.hid e1
                      have HTM := Lib.hid tm
                      have HPE := Lib.hid hPe
                      clear hown hbx e1 hG hxb hPe tm
                      go_upto_region 31 with (fail)
                      go_region
                      go_wp2_with fail
                      go_meet
                      refine ⟨some ⟨g, 0, none⟩, c', ?_⟩
                      have hl1 : (mkD1 x).length = mkT x := mkD1_len x
                      have hne : g ≠ ob := by omega
                      refine ⟨?_, ?_, ?_, HD0.out.lt⟩
                      · rw [hl1]
                        show (w3.setCell ⟨g, 0, none⟩ (.int .u8 (mkP x : Int))).heap[ob]? = _
                        simp only [World.setCell, Array.getElem?_modify, if_neg hne]
                        exact HBX.out
                      · rw [hl1, E1.out, ← B8_set (z := (mkP x : Int)) _ _ _ (by rw [ofNat_toNat (by omega)])]
                        exact own_alk (own_set HOWN.out 0 (.int .u8 (mkP x : Int))) rfl
                      · exact (HD0.out.fr.setCell (.inr (by show w2.heap.size ≤ g; omega)) _).drew
                case rest =>
                  obtain ⟨A1, c1, hD1⟩ := hcut
                  obtain ⟨w4, rfl⟩ : ∃ w4, w4 = wc := ⟨_, rfl⟩
                  have HD1 := Lib.hid hD1
                  clear hD1 HD0
                  have d2 := HZ2.out.symm
                  go_upto_if 115 with (fail)
                  clear d2
                  go_cut [] (fun wx => ∃ A c, DW w2 ob K (mkD x) A c wx)
                  case first =>
                    as_aux_lemma =>
                      cases z2 with
                      | false =>
                        have e1 : mkD x = mkD1 x := by unfold mkD; rw [if_neg (by rw [HK.out]; exact beq_eq_false_iff_ne.1 HZ2.out.symm)]
                        have E1 := Lib.hid e1
                        clear e1
                        go_wp2_with fail
                        go_meet
                        exact ⟨A1, c1, by rw [E1.out]; exact HD1.out⟩
                      | true =>
                        have hG : mkG (mkK x) = 2 := by rw [HK.out]; exact beq_iff_eq.1 HZ2.out.symm
                        have hT2 := mkT_two hG
                        obtain ⟨ff, hff, hfc⟩ := f68 x.m
                        have hff0 := hff
                        have e1 : mkD x = (mkD1 x).set 1 (UInt8.ofNat (bt (mkD1 x) 1 / 16 * 16 + ff)) := by unfold mkD; rw [if_pos hG, hff]
                        have hown := HD1.out.own
                        have hbx := HD1.out.bx
                        rw [mkD1_len] at hown hbx
                        obtain ⟨g, cc, hv, hg, hncc, hcm⟩ := own_some hown (by omega)
                        injection hv with hv1 hv2 hv3
                        subst hv1 hv3
                        have hfz := own_fz hown 1
                        have q1 := obx1 hbx
                        have q1a := old_cell q1 (.cells #[.int .u8 0, .int .u8 1, .int .u8 3] 5)
                        have hxb := HD1.out.fr.blk HXC.out (by simp; omega)
                        have y1 : w4.cell? ⟨w1.heap.size, 1, none⟩ = some (.int .u8 x.m) := by simp [World.cell?, hxb]
                        have y1a := old_cell y1 (.cells #[.int .u8 0, .int .u8 1, .int .u8 3] 5)
                        have i1T : (1 : Int) < (mkT x : Int) := by omega
                        have hT1 : 1 < mkT x := hT2
                        obtain ⟨yy, hyy, eyy⟩ := bt_get (xs := mkD1 x) (k := 1) (by rw [mkD1_len]; exact hT2)
                        have q0 : w4.cell? ⟨g, 1, none⟩ = some (.int .u8 (bt (mkD1 x) 1 : Nat)) := own_cell hown (by rw [B8_get, hyy, ← eyy]; rfl)
                        have q0a := old_cell q0 (.cells #[.int .u8 0, .int .u8 1, .int .u8 3] 5)
                        have hfza : (w4.alloc (.cells #[.int .u8 0, .int .u8 1, .int .u8 3] 5)).frozen? ⟨g, 1, none⟩ = false := own_fz (hown.alloc _) 1
                        have hv8 := bt_lt (mkD1 x) 1
                        have hlt4 := HD1.out.lt
                        have hsz4 := HD1.out.fr.size
                        have HOWN := Lib.hid hown
                        have HBX := Lib.hid hbx
                        have E1 := Lib.hid e1
                        clear hown hbx e1 hG hxb hyy eyy hff0
                        generalize bt (mkD1 x) 1 = v1 at q0 q0a hv8 E1
                        have t1 : Int.tdiv (v1 : Int) 16 = ((v1 / 16 : Nat) : Int) := by rw [Int.natCast_ediv]; exact Int.tdiv_eq_ediv_of_nonneg (by omega)
                        have t2 : (v1 : Int) / 16 = ((v1 / 16 : Nat) : Int) := by rw [Int.natCast_ediv]; rfl
                        have hvq : v1 / 16 ≤ 15 := by omega
                        generalize v1 / 16 = vq at t1 t2 hvq E1
                        have tw1 : IntKind.u8.wrap ((vq : Int) * 16) = (vq : Int) * 16 := u8_in (by omega) (by omega)
                        have hf3 : ff ≤ 3 := by omega
                        have z0 := f68_cell hff w4
                        have hzi : (0 : Int) ≤ ((x.m % 3 : Nat) : Int) ∧ ((x.m % 3 : Nat) : Int) < 3 := by omega
                        have hci : (x.m : Int) % 3 = ((x.m % 3 : Nat) : Int) := by omega
                        have hct : Int.tmod (x.m : Int) 3 = ((x.m % 3 : Nat) : Int) := by rw [Int.tmod_eq_emod_of_nonneg (by omega)]; exact hci
                        have tw2 : IntKind.u8.wrap ((vq : Int) * 16 + (ff : Int)) = (vq : Int) * 16 + (ff : Int) := u8_in (by omega) (by omega)
                        clear hfc hff
                        generalize x.m % 3 = m3 at z0 hzi hci hct
                        go_upto_region 33 with (fail)
                        go_region
                        go_wp2_with fail
                        go_meet
                        refine ⟨some ⟨g, 0, none⟩, c1, ?_⟩
                        have hl1 : (mkD x).length = mkT x := mkD_len x
                        have hne : g ≠ ob := by omega
                        have hFA : Fr [] w4 (w4.alloc (.cells #[.int .u8 0, .int .u8 1, .int .u8 3] 5)) := (Fr.refl _ _).alloc _
                        refine ⟨?_, ?_, ?_, hlt4⟩
                        · rw [hl1]
                          show ((w4.alloc (.cells #[.int .u8 0, .int .u8 1, .int .u8 3] 5)).setCell ⟨g, 1, none⟩ (.int .u8 ((vq : Int) * 16 + (ff : Int)))).heap[ob]? = _
                          have hbA := hFA.blk HBX.out (by simp)
                          generalize w4.alloc (.cells #[.int .u8 0, .int .u8 1, .int .u8 3] 5) = wA at hbA ⊢
                          simp only [World.setCell, Array.getElem?_modify, if_neg hne]
                          exact hbA
                        · rw [hl1, E1.out, ← B8_set (z := ((vq : Int) * 16 + (ff : Int))) _ _ _ (by rw [ofNat_toNat (by omega)]; omega)]
                          exact own_alk (own_set (HOWN.out.alloc _) 1 (.int .u8 ((vq : Int) * 16 + (ff : Int)))) rfl
                        · exact ((HD1.out.fr.alloc _).setCell (.inr (by show w2.heap.size ≤ g; omega)) _).drew
                  case rest =>
                    obtain ⟨A2, c2, hD⟩ := hcut
                    obtain ⟨w5, rfl⟩ : ∃ w5, w5 = wc := ⟨_, rfl⟩
                    have hbx := hD.bx
                    rw [mkD_len] at hbx
                    have k0 := obx0 (k := K) hbx
                    have q1 := obx1 (k := K) hbx
                    have HDD := Lib.hid hD
                    have HBX := Lib.hid hbx
                    clear hD hbx HD1
                    obtain ⟨z3, hz3⟩ : ∃ z3, z3 = ((K : Int) == 1) := ⟨_, rfl⟩
                    have d3 := hz3.symm
                    have HZ3 := Lib.hid hz3
                    clear hz3
                    have tw0 : IntKind.i64.wrap (2 + (mkT x : Int)) = 2 + (mkT x : Int) := IntWalk.i64_in _ (by omega)
                    go_upto_if 138 with (fail)
                    clear d3
                    go_cut [16] (fun s16 wx => s16 = .int .i64 (mkMore x : Nat) ∧ w5 = wx)
                    case first =>
                      as_aux_lemma =>
                        cases z3 with
                        | true =>
                          have h1 : mkMore x = 1 := by unfold mkMore; rw [if_pos (by rw [HK.out]; have := beq_iff_eq.1 HZ3.out.symm; omega)]
                          have H1 := Lib.hid h1
                          clear h1
                          go_wp2_with fail
                          go_meet
                          exact ⟨by rw [H1.out]; rfl, rfl⟩
                        | false =>
                          have h1 : mkMore x = 2 + mkT x := by unfold mkMore; rw [if_neg (by rw [HK.out]; have := beq_eq_false_iff_ne.1 HZ3.out.symm; omega), mkD_len]
                          have H1 := Lib.hid h1
                          clear h1
                          go_wp2_with fail
                          go_meet
                          exact ⟨by rw [H1.out]; simp, rfl⟩
                    case rest =>
                      obtain ⟨rfl, rfl⟩ := hcut
                      have hmore : mkMore x ≤ 76 := by unfold mkMore; split <;> (try rw [mkD_len]) <;> omega
                      have h15 : Fr [] w1 w5 := (HFO.out.trans HFC.out).trans2 HDD.out.fr (fun t ht => .inr (by simp at ht; omega))
                      have hM5 : MW w l k os (.slice vA os.length vc) w5 := ⟨h15.own HM.out.own (by simp), HM.out.oo.fr h15 (by simp), HM.out.mp, h15.blk HM.out.met (by simp), HM.out.fr.trans h15, Nat.le_trans HM.out.sz h15.size⟩
                      have hX := HX.out
                      have hsn : l.take (k + 1) = l.take k ++ [x] := by rw [List.take_add_one, hX]; rfl
                      have hstep : mkAll (l.take (k + 1)) = mkStep st x := by rw [hsn, mkAll_snoc, HST.out]
                      have hI := mkAll_inv (l.take k)
                      rw [HST.out] at hI
                      have hml := hI.ml
                      have hmb := hI.mb
                      have hol : os.length = st.1.length := by rw [← HST.out, ← hM5.mp, List.length_map]
                      have hole : st.1.length ≤ 40 := by have := flatP_len st.1; rw [← hI.n] at this; omega
                      have hwm : IntKind.i64.wrap ((st.2.1 : Int) + (mkMore x : Int)) = (st.2.1 : Int) + (mkMore x : Int) := IntWalk.i64_in _ (by omega)
                      have hwk : IntKind.i64.wrap ((k : Int) + 1) = (k : Int) + 1 := IntWalk.i64_in _ (by omega)
                      have hk2 : ((k : Int) + 1) = ((k + 1 : Nat) : Int) := by omega
                      have hmet := hM5.met
                      rw [HST.out] at hmet
                      have HK2 := Lib.hid hk2
                      have HSTEP := Lib.hid hstep
                      have HM5 := Lib.hid hM5
                      have HOL := Lib.hid hol
                      have HMET := Lib.hid hmet
                      have HI := Lib.hid hI
                      have HML := Lib.hid hml
                      clear hk2 hstep hM5 hX hsn hol hmet hI hml k0 q1 tw0
                      by_cases hb : st.2.1 + mkMore x ≤ 40
                      · have d0 : decide ((40 : Int) < (st.2.1 : Int) + (mkMore x : Int)) = false := decide_eq_false (by omega)
                        have d00 : ¬ (40 : Int) < (st.2.1 : Int) + (mkMore x : Int) := by omega
                        by_cases hG : 0 ≤ mkG K
                        · obtain ⟨gn, hgn⟩ : ∃ gn : Nat, mkG K = (gn : Int) := ⟨(mkG K).toNat, by omega⟩
                          have hg3 : gn < 3 := by have := grp_G K; omega
                          have dG : decide (0 ≤ (gn : Int)) = true := decide_eq_true (by omega)
                          have dG0 : (0 : Int) ≤ (gn : Int) ∧ (gn : Int) < 3 := by omega
                          have HGN := Lib.hid hgn
                          have hmv : st.2.2[gn]? = some (st.2.2.getD gn 0) := by rw [List.getD_eq_getElem?_getD, List.getElem?_eq_getElem (by rw [HML.out]; exact hg3)]; rfl
                          have hmb1 := hmb gn
                          have c0 : w5.cell? ⟨w.heap.size, gn, none⟩ = some (.int .i64 (st.2.2.getD gn 0 : Nat)) := by
                            rw [cell_of_row w5 w.heap.size gn _ _ (0, 0) HMET.out, List.getElem?_toArray, List.getElem?_map, hmv]; rfl
                          have z0 : w5.frozen? ⟨w.heap.size, gn, none⟩ = false := by have := HMET.out; simp [World.frozen?, this]
                          rw [hgn]
                          clear hG hgn
                          generalize hmvv : st.2.2.getD gn 0 = mv at c0 hmv hmb1
                          have HMV := Lib.hid hmvv
                          clear hmvv
                          by_cases hmv0 : 0 < mv
                          · have d1 : decide ((0 : Int) < (mv : Int)) = true := decide_eq_true (by omega)
                            have d11 : (0 : Int) < (mv : Int) := by omega
                            have d12 : 0 < mv := hmv0
                            have HNO := Lib.hid (show ¬ mkOk st x by
                              rintro ⟨_, h⟩
                              refine h ⟨by rw [HK.out, HGN.out]; omega, ?_⟩
                              rw [HK.out, HGN.out, Int.toNat_natCast, HMV.out]; exact hmv0)
                            clear hmv hmb
                            go_wp2_with fail
                            go_roundg (m - (k + 1))
                            case measure => omega
                            case rel =>
                              have hno : mkStep st x = st := by unfold mkStep; rw [if_neg HNO.out]
                              refine ⟨k + 1, os, by omega, rfl, by rw [HK2.out], by rw [HSTEP.out, hno], ?_⟩
                              exact ⟨HM5.out.own, HM5.out.oo, by rw [HSTEP.out, hno, HM5.out.mp, HST.out], by rw [HSTEP.out, hno]; exact HMET.out, HM5.out.fr, HM5.out.sz⟩
                          · obtain rfl : mv = 0 := by omega
                            have hF56 : Fr [w.heap.size] w5 (w5.setCell ⟨w.heap.size, gn, none⟩ (.int .i64 1)) := (Fr.refl _ _).setCell (.inl (by simp)) _
                            have hmet6 : (w5.setCell ⟨w.heap.size, gn, none⟩ (.int .i64 1)).heap[w.heap.size]? = some (.cells ((st.2.2.set gn (st.2.2.getD gn 0 + 1)).map fun x => Value.int .i64 (x : Nat)).toArray 59 (0, 0)) := by
                              have := HMET.out
                              rw [HMV.out]
                              have e : ((st.2.2.set gn (0 + 1)).map fun x => Value.int .i64 (x : Nat)).toArray = ((st.2.2.map fun x => Value.int .i64 (x : Nat)).toArray.setIfInBounds gn (.int .i64 1)) := by
                                rw [List.map_set, List.setIfInBounds_toArray]; rfl
                              rw [e]
                              simp only [World.setCell, Array.getElem?_modify, if_true, this, Option.map_some]
                              rfl
                            go_upto_region 40 with (fail)
                            generalize w5.setCell ⟨w.heap.size, gn, none⟩ (.int .i64 1) = w6 at hF56 hmet6 ⊢
                            have hown6 : w6.ownsRow (w.heap.size + 1) 35 2 (.slice vA os.length vc) os.length (CO os) := hF56.own HM5.out.own (fun t ht => by have := (HM5.out.own.lt t ht).1; simp; omega)
                            have hoo6 : OO w6 (w.heap.size + 1) os := HM5.out.oo.fr hF56 (fun a ha t ht => by have := ((HM5.out.oo.own a ha).lt t ht).1; simp; omega)
                            have hbx6 : w6.heap[ob]? = some (.cells #[.int .u8 K, .slice A2 (mkT x) c2] 35 (0, 0)) := hF56.blk HBX.out (by have := HM.out.sz; simp; omega)
                            have hdn := HDD.out.own
                            rw [mkD_len] at hdn
                            have hdn6 : w6.ownsRow w2.heap.size 5 1 (.slice A2 (mkT x) c2) (mkT x) (B8 (mkD x)) := hF56.own hdn (fun t ht => by have := (hdn.lt t ht).1; have := HM.out.sz; simp; omega)
                            have k0 := obx0 (k := K) hbx6
                            have q1 := obx1 (k := K) hbx6
                            have hsz6 : w.heap.size + 1 ≤ w6.heap.size := Nat.le_trans HM5.out.sz hF56.size
                            obtain ⟨v', w8, hr, ho8, hg8, _⟩ := app_run elO (w6.alloc (.cells #[.int .u8 K, .slice A2 (mkT x) c2] 35)) (w.heap.size + 1) 24 _ os.length (CO os) (hown6.alloc _) (some ⟨w6.heap.size, 0, none⟩) 1 1 [.int .u8 K, .slice A2 (mkT x) c2] rfl (rd_lit w6 [.int .u8 K, .slice A2 (mkT x) c2] 35) (by simp [Value.oneCell']) (by simp) (by simp only [maxLen]; have := HOL.out; omega) (by have := HOL.out; omega) (by rw [World.size_alloc]; omega)
                            obtain ⟨A9, c9, rfl, _, _, _⟩ := own_slice ho8
                            have hV : ∀ t, (Value.slice vA os.length vc).ownBlock = some t → w.heap.size + 1 ≤ t := fun t ht => (hown6.lt t ht).1
                            have hF8 : Fr (Value.slice vA os.length vc).ownBlock.toList w6 w8 := ((Fr.refl [] w6).alloc _).nil.trans (fr_grown hg8)
                            have hON : ∀ o' : Value, (∀ t, o'.ownBlock = some t → (Value.slice vA os.length vc).ownBlock ≠ some t) → ∀ t, o'.ownBlock = some t → t ∉ (Value.slice vA os.length vc).ownBlock.toList := fun o' h2 t ht hm => h2 t ht (by simpa using hm)
                            have hoo8 := hoo6.fr hF8 (fun a ha => hON (opO a) (own_ne (hoo6.own a ha) hown6 (by decide)))
                            have hdn8 := hF8.own hdn6 (hON _ (own_ne hdn6 hown6 (by decide)))
                            have hkk : mkOk st x := ⟨hb, by rintro ⟨_, h⟩; rw [HK.out, HGN.out] at h; simp only [Int.toNat_natCast] at h; rw [HMV.out] at h; exact absurd h (by decide)⟩
                            have h38 := (mk_okP (x := x) (N := st.2.1) hb).len
                            rw [mkD_len] at h38
                            have hOO8 : OO w8 (w.heap.size + 1) (os ++ [⟨K, A2, mkT x, c2, mkD x⟩]) := hoo8.snoc (own_ext hdn8 (by have := HM.out.sz; omega)) ⟨mkD_len x, h38, hK8⟩ (fun a ha t ht ht2 => by
                              have h1 := ((HM.out.oo.own a ha).lt t ht).2
                              have h2 := (hdn.lt t ht2).1
                              omega)
                            have hmet8 := hF8.blk hmet6 (by simp; intro h; have := hV _ h; omega)
                            have hfr8 : Fr [] w w8 := (HM5.out.fr.trans2 hF56 (fun t ht => .inr (by simp at ht; omega))).trans2 hF8 (fun t ht => .inr (by have := hV t (by simpa using ht); omega))
                            have hst' : mkStep st x = (st.1 ++ [(mkK x, mkD x)], st.2.1 + mkMore x, if 0 ≤ mkG (mkK x) then st.2.2.set (mkG (mkK x)).toNat (st.2.2.getD (mkG (mkK x)).toNat 0 + 1) else st.2.2) := by unfold mkStep; rw [if_pos hkk]
                            have hMN : MW w l (k + 1) (os ++ [⟨K, A2, mkT x, c2, mkD x⟩]) (.slice A9 (os.length + 1) c9) w8 := by
                              refine ⟨?_, hOO8, ?_, ?_, hfr8, Nat.le_trans hsz6 hF8.size⟩
                              · rw [List.length_append, CO_snoc]; exact ho8
                              · rw [HSTEP.out, hst', List.map_append, HM5.out.mp, HST.out]
                                show _ ++ [(K, mkD x)] = _ ++ [(mkK x, mkD x)]
                                rw [HK.out]
                              · rw [HSTEP.out, hst']
                                simp only
                                rw [if_pos (by rw [HK.out, HGN.out]; omega), HK.out, HGN.out, Int.toNat_natCast]; exact hmet8
                            have hN2 : (mkAll (l.take (k + 1))).2.1 = st.2.1 + mkMore x := by rw [HSTEP.out, hst']
                            have HMN := Lib.hid hMN
                            have HN2 := Lib.hid hN2
                            clear hown6 hoo6 hbx6 hdn hdn6 ho8 hV hF8 hON hoo8 hdn8 hkk h38 hOO8 hmet8 hfr8 hst' hMN hN2 hg8
                            go_wp2_with (at_builtin; refine wpList_app rfl _ _ _ rfl hr rfl rfl ?_)
                            go_roundg (m - (k + 1))
                            case measure => omega
                            case rel => exact ⟨k + 1, _, by omega, rfl, by rw [HK2.out], by rw [HN2.out]; simp, HMN.out⟩
                        · have dG : decide (0 ≤ mkG K) = false := decide_eq_false hG
                          have dG0 : ¬ 0 ≤ mkG K := hG
                          have hown6 : w5.ownsRow (w.heap.size + 1) 35 2 (.slice vA os.length vc) os.length (CO os) := HM5.out.own
                          have hoo6 : OO w5 (w.heap.size + 1) os := HM5.out.oo
                          have hbx6 : w5.heap[ob]? = some (.cells #[.int .u8 K, .slice A2 (mkT x) c2] 35 (0, 0)) := HBX.out
                          have hdn := HDD.out.own
                          rw [mkD_len] at hdn
                          have hdn6 : w5.ownsRow w2.heap.size 5 1 (.slice A2 (mkT x) c2) (mkT x) (B8 (mkD x)) := hdn
                          have k0 := obx0 (k := K) hbx6
                          have q1 := obx1 (k := K) hbx6
                          have hsz6 : w.heap.size + 1 ≤ w5.heap.size := HM5.out.sz
                          obtain ⟨v', w8, hr, ho8, hg8, _⟩ := app_run elO (w5.alloc (.cells #[.int .u8 K, .slice A2 (mkT x) c2] 35)) (w.heap.size + 1) 24 _ os.length (CO os) (hown6.alloc _) (some ⟨w5.heap.size, 0, none⟩) 1 1 [.int .u8 K, .slice A2 (mkT x) c2] rfl (rd_lit w5 [.int .u8 K, .slice A2 (mkT x) c2] 35) (by simp [Value.oneCell']) (by simp) (by simp only [maxLen]; have := HOL.out; omega) (by have := HOL.out; omega) (by rw [World.size_alloc]; omega)
                          obtain ⟨A9, c9, rfl, _, _, _⟩ := own_slice ho8
                          have hV : ∀ t, (Value.slice vA os.length vc).ownBlock = some t → w.heap.size + 1 ≤ t := fun t ht => (hown6.lt t ht).1
                          have hF8 : Fr (Value.slice vA os.length vc).ownBlock.toList w5 w8 := ((Fr.refl [] w5).alloc _).nil.trans (fr_grown hg8)
                          have hON : ∀ o' : Value, (∀ t, o'.ownBlock = some t → (Value.slice vA os.length vc).ownBlock ≠ some t) → ∀ t, o'.ownBlock = some t → t ∉ (Value.slice vA os.length vc).ownBlock.toList := fun o' h2 t ht hm => h2 t ht (by simpa using hm)
                          have hoo8 := hoo6.fr hF8 (fun a ha => hON (opO a) (own_ne (hoo6.own a ha) hown6 (by decide)))
                          have hdn8 := hF8.own hdn6 (hON _ (own_ne hdn6 hown6 (by decide)))
                          have hkk : mkOk st x := ⟨hb, by rintro ⟨h, _⟩; exact hG (by rw [HK.out] at h; exact h)⟩
                          have h38 := (mk_okP (x := x) (N := st.2.1) hb).len
                          rw [mkD_len] at h38
                          have hOO8 : OO w8 (w.heap.size + 1) (os ++ [⟨K, A2, mkT x, c2, mkD x⟩]) := hoo8.snoc (own_ext hdn8 (by have := HM.out.sz; omega)) ⟨mkD_len x, h38, hK8⟩ (fun a ha t ht ht2 => by
                            have h1 := ((HM.out.oo.own a ha).lt t ht).2
                            have h2 := (hdn.lt t ht2).1
                            omega)
                          have hmet8 := hF8.blk HMET.out (by simp; intro h; have := hV _ h; omega)
                          have hfr8 : Fr [] w w8 := HM5.out.fr.trans2 hF8 (fun t ht => .inr (by have := hV t (by simpa using ht); omega))
                          have hst' : mkStep st x = (st.1 ++ [(mkK x, mkD x)], st.2.1 + mkMore x, if 0 ≤ mkG (mkK x) then st.2.2.set (mkG (mkK x)).toNat (st.2.2.getD (mkG (mkK x)).toNat 0 + 1) else st.2.2) := by unfold mkStep; rw [if_pos hkk]
                          have hMN : MW w l (k + 1) (os ++ [⟨K, A2, mkT x, c2, mkD x⟩]) (.slice A9 (os.length + 1) c9) w8 := by
                            refine ⟨?_, hOO8, ?_, ?_, hfr8, Nat.le_trans hsz6 hF8.size⟩
                            · rw [List.length_append, CO_snoc]; exact ho8
                            · rw [HSTEP.out, hst', List.map_append, HM5.out.mp, HST.out]
                              show _ ++ [(K, mkD x)] = _ ++ [(mkK x, mkD x)]
                              rw [HK.out]
                            · rw [HSTEP.out, hst']
                              simp only
                              rw [if_neg (by rw [HK.out]; exact hG)]; exact hmet8
                          have hN2 : (mkAll (l.take (k + 1))).2.1 = st.2.1 + mkMore x := by rw [HSTEP.out, hst']
                          have HMN := Lib.hid hMN
                          have HN2 := Lib.hid hN2
                          clear hown6 hoo6 hbx6 hdn hdn6 ho8 hV hF8 hON hoo8 hdn8 hkk h38 hOO8 hmet8 hfr8 hst' hMN hN2 hg8
                          go_wp2_with (at_builtin; refine wpList_app rfl _ _ _ rfl hr rfl rfl ?_)
                          go_roundg (m - (k + 1))
                          case measure => omega
                          case rel => exact ⟨k + 1, _, by omega, rfl, by rw [HK2.out], by rw [HN2.out]; simp, HMN.out⟩
                      · have d0 : decide ((40 : Int) < (st.2.1 : Int) + (mkMore x : Int)) = true := decide_eq_true (by omega)
                        have d00 : (40 : Int) < (st.2.1 : Int) + (mkMore x : Int) := by omega
                        have HNO := Lib.hid (show ¬ mkOk st x from fun h => hb h.1)
                        clear hb
                        go_wp2_with fail
                        go_roundg (m - (k + 1))
                        case measure => omega
                        case rel =>
                          have hno : mkStep st x = st := by unfold mkStep; rw [if_neg HNO.out]
                          refine ⟨k + 1, os, by omega, rfl, by rw [HK2.out], by rw [HSTEP.out, hno], ?_⟩
                          exact ⟨HM5.out.own, HM5.out.oo, by rw [HSTEP.out, hno, HM5.out.mp, HST.out], by rw [HSTEP.out, hno]; exact HMET.out, HM5.out.fr, HM5.out.sz⟩
    · obtain rfl : k = m := by omega
      have hki : ¬ (k : Int) < (k : Int) := by omega
      have hlt2 : l.take k = l := List.take_of_length_le (by rw [HL.out]; exact Nat.le_refl _)
      obtain ⟨vA, vc, rfl, _, _, _⟩ := own_slice hM.own
      have HM := Lib.hid hM
      have HLT := Lib.hid hlt2
      rw [hlt2]
      clear hM hlt2
      go_wp2_with fail
      go_ret2
      exact ⟨os, vA, vc, rfl, own_ext HM.out.own (by omega), HM.out.oo.ext (by omega), by rw [HM.out.mp, HLT.out], HM.out.fr⟩
theorem made_any (A : Option Addr) (n c : Nat) (l : List SmO) (w : World) (hl : l.length = n) (hnc : n ≤ c) (hrd : RdSm w A l) :
    Calls Try.prog 10 #[.slice A n c] w (MadeP6 (l.take 40) w) := by
  by_cases h : n ≤ 40
  · refine made_lt A n c (l.take 40) w n (by rw [if_neg (by omega)]) (Nat.le_refl _) hnc h (by rw [List.length_take]; omega) (hrd.take 40)
  · refine made_lt A n c (l.take 40) w 40 (by rw [if_pos (by omega)]; rfl) (by omega) hnc (by decide) (by rw [List.length_take]; omega) (hrd.take 40)
end Go.Proofs.Ytekhjpiopbkoaaa
