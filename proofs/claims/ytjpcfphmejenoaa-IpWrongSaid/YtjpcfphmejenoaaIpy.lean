/- Same; Hop; Turn. -/
import Derived.Test.YtjpcfphmejenoaaIpx
import Derived.StillTailTactics
namespace Go.Proofs.Ytjpcfphmejenoaa
open Go.RowKit
set_option linter.unusedVariables false
set_option maxRecDepth 100000

set_option maxHeartbeats 1000000 in
theorem same5 (h : Hd) (A B : Option Addr) (n m c d : Nat) (w : World) (h1 : h.o.length = n) (h2 : h.o.length = m) (r1 : Rd w A (B8 h.o)) (r2 : Rd w B (B8 h.o)) (hn : n ≤ 140737488351232) :
    Calls Try.prog 16 #[HV h A n c, HV h B m d] w fun e w' => e = .returned (.bool true) ∧ Fr [] w w' := by
  have cS := fun W (hW : Fr [] w W) => same_any A B n m c d h.o h.o W h1 h2 (r1.fr hW (by simp)) (r2.fr hW (by simp)) (by omega)
  unfold EqP at cS
  simp only [decide_true] at cS
  have CS := Lib.hid cS
  unfold HV
  have hF : Fr [] w ((w.alloc (.cells #[.int .u8 h.tos, .int .u16 h.id, .bool h.df, .bool h.mf, .int .i64 h.off, .int .u8 h.ttl, .int .u8 h.proto, .int .u32 h.src, .int .u32 h.dst, .slice A n c] 30)).alloc (.cells #[.int .u8 h.tos, .int .u16 h.id, .bool h.df, .bool h.mf, .int .i64 h.off, .int .u8 h.ttl, .int .u8 h.proto, .int .u32 h.src, .int .u32 h.dst, .slice B m d] 30)) := ((Fr.refl _ _).alloc _).alloc _
  have hB1 : BoxH ((w.alloc (.cells #[.int .u8 h.tos, .int .u16 h.id, .bool h.df, .bool h.mf, .int .i64 h.off, .int .u8 h.ttl, .int .u8 h.proto, .int .u32 h.src, .int .u32 h.dst, .slice A n c] 30)).alloc (.cells #[.int .u8 h.tos, .int .u16 h.id, .bool h.df, .bool h.mf, .int .i64 h.off, .int .u8 h.ttl, .int .u8 h.proto, .int .u32 h.src, .int .u32 h.dst, .slice B m d] 30)) w.heap.size h A n c := ((Fr.refl [] _).alloc _).blk (heap_alloc_new w _) (by simp)
  have hB2 : BoxH ((w.alloc (.cells #[.int .u8 h.tos, .int .u16 h.id, .bool h.df, .bool h.mf, .int .i64 h.off, .int .u8 h.ttl, .int .u8 h.proto, .int .u32 h.src, .int .u32 h.dst, .slice A n c] 30)).alloc (.cells #[.int .u8 h.tos, .int .u16 h.id, .bool h.df, .bool h.mf, .int .i64 h.off, .int .u8 h.ttl, .int .u8 h.proto, .int .u32 h.src, .int .u32 h.dst, .slice B m d] 30)) (w.heap.size + 1) h B m d := by
    have := heap_alloc_new (w.alloc (.cells #[.int .u8 h.tos, .int .u16 h.id, .bool h.df, .bool h.mf, .int .i64 h.off, .int .u8 h.ttl, .int .u8 h.proto, .int .u32 h.src, .int .u32 h.dst, .slice A n c] 30)) (.cells #[.int .u8 h.tos, .int .u16 h.id, .bool h.df, .bool h.mf, .int .i64 h.off, .int .u8 h.ttl, .int .u8 h.proto, .int .u32 h.src, .int .u32 h.dst, .slice B m d] 30)
    rw [World.size_alloc] at this
    exact this
  have HB1 := Lib.hid hB1
  have HB2 := Lib.hid hB2
  clear cS h1 h2 r1 r2 hB1 hB2
  go_enter Try.func16, Try.ntmps16
  go_wp2_with fail
  refine (CS.out _ hF).mono ?_
  rintro e w1 ⟨rfl, hW1⟩
  have B1 := HB1.out.fr hW1.fr (by simp)
  have B2 := HB2.out.fr hW1.fr (by simp)
  replace hF := hF.trans hW1.fr
  have s0 := B1.c0
  have s1 := B1.c1
  have s2 := B1.c2
  have s3 := B1.c3
  have s4 := B1.c4
  have s5 := B1.c5
  have s6 := B1.c6
  have s7 := B1.c7
  have s8 := B1.c8
  have t0 := B2.c0
  have t1 := B2.c1
  have t2 := B2.c2
  have t3 := B2.c3
  have t4 := B2.c4
  have t5 := B2.c5
  have t6 := B2.c6
  have t7 := B2.c7
  have t8 := B2.c8
  clear hW1 B1 B2 HB1 HB2
  go_wp2_with fail
  go_ret
  exact ⟨rfl, hF⟩

/-- What every world of a region meets that reads a header in a block. -/
def HBx (w1 : World) (g : Nat) (h : Hd) (A : Option Addr) (n c : Nat) (W : World) : Prop := Fr [] w1 W ∧ BoxH W g h A n c
/-- The header of the next hop. -/
def hopH (h : Hd) : Hd := { h with ttl := h.ttl - 1 }
def NoP (z : Nat) (w : World) (e : Ending) (w' : World) : Prop := e = .returned (.tuple #[.slice none 0 0, .int .i64 z]) ∧ Fr [] w w'
set_option maxHeartbeats 1000000 in
theorem hop_no (A : Option Addr) (n c : Nat) (xs : List UInt8) (w : World) (hl : xs.length = n) (hrd : Rd w A (B8 xs)) (hnc : n ≤ c) (hn : n ≤ 140737488351232) (hf : faultN xs ≠ 0) :
    Calls Try.prog 17 #[.slice A n c] w (NoP (faultN xs) w) := by
  have cR := read_no A n c xs w hl hrd hnc hn hf
  unfold RdNo at cR
  unfold NoP
  have hd : (((faultN xs : Nat) : Int) != 0) = true := by rw [bne_iff_ne]; omega
  generalize faultN xs = z at cR hd ⊢
  have CR := Lib.hid cR
  clear cR hl hrd hf
  go_enter Try.func17, Try.ntmps17
  go_wp2_with fail
  refine CR.out.mono ?_
  rintro e w1 ⟨rfl, hF1⟩
  go_wp2_with fail
  go_ret2
  refine ⟨rfl, ?_⟩
  exact hF1.alloc _
set_option maxHeartbeats 1000000 in
theorem hop_ttl (A : Option Addr) (n c : Nat) (xs : List UInt8) (w : World) (hl : xs.length = n) (hrd : Rd w A (B8 xs)) (hnc : n ≤ c) (hn : n ≤ 140737488351232) (g : Good xs) (ht : (hdOf xs).ttl ≤ 1) :
    Calls Try.prog 17 #[.slice A n c] w (NoP 57 w) := by
  have cR := read_yes A n c xs w hl hrd hnc hn g
  have CR := Lib.hid cR
  have d1 : decide (((hdOf xs).ttl : Int) ≤ 1) = true := by simp; omega
  have HD1 := Lib.hid d1
  clear cR hl hrd g ht d1
  go_enter Try.func17, Try.ntmps17
  go_wp2_with fail
  refine CR.out.mono ?_
  rintro e w1 ⟨A', c', rfl, o1, hF1⟩
  have d1 := HD1.out
  generalize hdOf xs = h at *
  clear o1 CR HD1
  unfold HV
  go_wp2_with fail
  go_ret2
  refine ⟨rfl, ?_⟩
  exact hF1.alloc _

set_option maxHeartbeats 4000000 in
theorem hop_yes (A : Option Addr) (n c : Nat) (xs : List UInt8) (w : World) (hl : xs.length = n) (hrd : Rd w A (B8 xs)) (hnc : n ≤ c) (hn : n ≤ 140737488351232) (g : Good xs) (ht : 2 ≤ (hdOf xs).ttl) :
    Calls Try.prog 17 #[.slice A n c] w (WrYes w (wrN (hopH (hdOf xs)) ((xs.take (totN xs)).drop (szN xs)))) := by
  have hsz := g.sz
  have htt := g.tot
  have cR := read_yes A n c xs w hl hrd hnc hn g
  have hlo := (pk_of g).2
  have f0 := fits_of g
  have hlt := f0.b.ttl
  have fH : Fits (hopH (hdOf xs)) (totN xs - szN xs) := ⟨⟨f0.b.tos, f0.b.id, f0.b.off, by show (hdOf xs).ttl - 1 < 256; omega, f0.b.proto, f0.b.src, f0.b.dst⟩, f0.o, f0.off, f0.n, f0.mf⟩
  obtain ⟨b, o, rfl⟩ := rd_addr8 hrd (by have := g.len; omega)
  have hdl : ((xs.take (totN xs)).drop (szN xs)).length = totN xs - szN xs := by rw [List.length_drop, List.length_take]; omega
  obtain ⟨E, hE⟩ : ∃ E : Option Addr, E = if c = szN xs then some ⟨b, o, none⟩ else some ⟨b, o + szN xs, none⟩ := ⟨_, rfl⟩
  have hEn : E = none → c - szN xs = 0 := by intro e; rw [hE] at e; split at e <;> cases e
  have hif := hE.symm
  have hrdD : ∀ W, Fr [] w W → Rd W E (B8 ((xs.take (totN xs)).drop (szN xs))) := fun W hW => by
    rw [hE]
    have h1 := ((hrd.fr hW (by simp)).take (totN xs))
    rw [B8_take] at h1
    refine rd_ite (fun e => ?_) (fun _ => rd_drop' h1 _)
    have : (xs.take (totN xs)).drop (szN xs) = [] := List.drop_of_length_le (by rw [List.length_take]; omega)
    rw [this]; exact Rd.nil _ _
  have d1 : decide (((hdOf xs).ttl : Int) ≤ 1) = false := by simp; omega
  have wt : IntKind.u8.wrap (((hdOf xs).ttl : Int) - 1) = (((hdOf xs).ttl - 1 : Nat) : Int) := by rw [u8_in (by omega) (by omega)]; omega
  have b1 : (0 : Int) ≤ (szN xs : Int) ∧ (szN xs : Int) ≤ (totN xs : Int) ∧ (totN xs : Int) ≤ (c : Int) := by omega
  have b2 : (szN xs : Int) ≤ (totN xs : Int) := by omega
  have b3 : (totN xs : Int) ≤ (c : Int) := by omega
  have HR := Lib.hid cR
  have FH := Lib.hid fH
  have HDL := Lib.hid hdl
  have HRD := Lib.hid hrdD
  have HEN := Lib.hid hEn
  clear hE hEn
  have HLO := Lib.hid hlo
  have D1 := Lib.hid d1
  have WT := Lib.hid wt
  clear cR hlo f0 hlt fH hdl hrdD hl hrd g ht hsz htt d1 wt
  go_enter Try.func17, Try.ntmps17
  go_wp2_with fail
  refine HR.out.mono ?_
  rintro e w1 ⟨A', c', rfl, o1, hF1⟩
  have cW := fun W (hW : Fr [] w1 W) => write_yes (hopH (hdOf xs)) ((xs.take (totN xs)).drop (szN xs)) A' E (szN xs - 20) c' (totN xs - szN xs) (c - szN xs) W HLO.out (Rd.own (hW.own o1 (by simp))) (by
    intro e; subst e
    rcases o1.2 with ⟨h, _⟩ | ⟨_, _, _, h, _⟩
    · injection h
    · injection h with h; cases h) HDL.out (HRD.out W (hF1.trans hW)) HEN.out FH.out
  have d1 := D1.out
  have wt := WT.out
  unfold HV hopH at cW
  generalize hdOf xs = h at *
  generalize hLL : wrN { h with ttl := h.ttl - 1 } ((xs.take (totN xs)).drop (szN xs)) = L at cW
  have HLL : Hid (wrN (hopH h) ((xs.take (totN xs)).drop (szN xs)) = L) := hLL
  clear hLL
  have CW := Lib.hid cW
  clear HR cW o1 D1 WT HLO FH HDL HRD
  unfold HV
  go_wp2_with fail
  have hS0 : HBx w1 w1.heap.size (hopH h) A' (szN xs - 20) c' ((w1.alloc (.cells #[.int .u8 h.tos, .int .u16 h.id, .bool h.df, .bool h.mf, .int .i64 h.off, .int .u8 (h.ttl - 1 : Nat), .int .u8 h.proto, .int .u32 h.src, .int .u32 h.dst, .slice A' (szN xs - 20) c'] 30)).drew) := ⟨((Fr.refl _ _).alloc _).drew, heap_alloc_new w1 _⟩
  refine wp_region_held_drew (S := HBx w1 w1.heap.size (hopH h) A' (szN xs - 20) c') (by kernel_rfl) hS0 (fun hS => ?_)
  clear hS0
  refine wpAnyH_take (i := 0) (v := ?_) rfl (by kernel_rfl) (by kernel_rfl) (by kernel_rfl) (fun _ _ _ h => h) (Or.inl ⟨by rfl, ?_⟩) hS ?_
  rotate_left 1
  · intro w hSw; obtain ⟨_, hb⟩ := hSw; have q0 := hb.c0; have q1 := hb.c1; have q2 := hb.c2; have q3 := hb.c3; have q4 := hb.c4; have q5 := hb.c5; have q6 := hb.c6; have q7 := hb.c7; have q8 := hb.c8; have q9 := hb.c9; go_simp; with_reducible rfl
  try simp only [Act.put, List.setIfInBounds_toArray]
  refine wpAnyH_take (i := 1) (v := ?_) rfl (by kernel_rfl) (by kernel_rfl) (by kernel_rfl) (fun _ _ _ h => h) (Or.inl ⟨by rfl, ?_⟩) hS ?_
  rotate_left 1
  · intro w hSw; obtain ⟨_, hb⟩ := hSw; have q0 := hb.c0; have q1 := hb.c1; have q2 := hb.c2; have q3 := hb.c3; have q4 := hb.c4; have q5 := hb.c5; have q6 := hb.c6; have q7 := hb.c7; have q8 := hb.c8; have q9 := hb.c9; go_simp; with_reducible rfl
  try simp only [Act.put]
  refine wpAnyH_take (i := 2) (v := ?_) rfl (by kernel_rfl) (by kernel_rfl) (by kernel_rfl) (fun _ _ _ h => h) (Or.inl ⟨by rfl, ?_⟩) hS ?_
  rotate_left 1
  · intro w hSw; obtain ⟨_, hb⟩ := hSw; have q0 := hb.c0; have q1 := hb.c1; have q2 := hb.c2; have q3 := hb.c3; have q4 := hb.c4; have q5 := hb.c5; have q6 := hb.c6; have q7 := hb.c7; have q8 := hb.c8; have q9 := hb.c9; go_simp; with_reducible rfl
  try simp only [Act.put]
  refine wpAnyH_take (i := 3) (v := ?_) rfl (by kernel_rfl) (by kernel_rfl) (by kernel_rfl) (fun _ _ _ h => h) (Or.inl ⟨by rfl, ?_⟩) hS ?_
  rotate_left 1
  · intro w hSw; obtain ⟨_, hb⟩ := hSw; have q0 := hb.c0; have q1 := hb.c1; have q2 := hb.c2; have q3 := hb.c3; have q4 := hb.c4; have q5 := hb.c5; have q6 := hb.c6; have q7 := hb.c7; have q8 := hb.c8; have q9 := hb.c9; go_simp; with_reducible rfl
  try simp only [Act.put]
  refine wpAnyH_take (i := 4) (v := ?_) rfl (by kernel_rfl) (by kernel_rfl) (by kernel_rfl) (fun _ _ _ h => h) (Or.inl ⟨by rfl, ?_⟩) hS ?_
  rotate_left 1
  · intro w hSw; obtain ⟨_, hb⟩ := hSw; have q0 := hb.c0; have q1 := hb.c1; have q2 := hb.c2; have q3 := hb.c3; have q4 := hb.c4; have q5 := hb.c5; have q6 := hb.c6; have q7 := hb.c7; have q8 := hb.c8; have q9 := hb.c9; go_simp; with_reducible rfl
  try simp only [Act.put]
  refine wpAnyH_ready (rs := [5]) (by kernel_rfl) (by simp) ?_
  refine AllReadyH.cons rfl (fun K hK => ?_) AllReadyH.nil
  go_simp
  refine (CW.out _ hS.1).mono ?_
  rintro e w2 ⟨g2, c2, rfl, o2, hF2⟩
  have hGd := hS.1
  have O2 := Lib.hid (own_ext o2 (base' := w.heap.size) (by have := hF1.size; have := hGd.size; omega))
  clear o2
  refine hK.out _ _ ⟨hS.1.trans hF2, hS.2.fr hF2 (by simp)⟩ (fun hS2 => ?_)
  clear hK K
  replace hS := hS2
  clear hS2
  try simp only [Act.put, List.setIfInBounds_toArray, List.set_cons_zero, List.set_cons_succ]
  refine wpAnyH_take (i := 6) (v := ?_) rfl (by kernel_rfl) (by kernel_rfl) (by kernel_rfl) (fun _ _ _ h => h) (Or.inl ⟨by rfl, ?_⟩) hS ?_
  rotate_left 1
  · intro w hSw; obtain ⟨_, hb⟩ := hSw; have q0 := hb.c0; have q1 := hb.c1; have q2 := hb.c2; have q3 := hb.c3; have q4 := hb.c4; have q5 := hb.c5; have q6 := hb.c6; have q7 := hb.c7; have q8 := hb.c8; have q9 := hb.c9; go_simp; with_reducible rfl
  try simp only [Act.put, List.setIfInBounds_toArray]
  refine wpAnyH_take (i := 7) (v := ?_) rfl (by kernel_rfl) (by kernel_rfl) (by kernel_rfl) (fun _ _ _ h => h) (Or.inl ⟨by rfl, ?_⟩) hS ?_
  rotate_left 1
  · intro w hSw; obtain ⟨_, hb⟩ := hSw; have q0 := hb.c0; have q1 := hb.c1; have q2 := hb.c2; have q3 := hb.c3; have q4 := hb.c4; have q5 := hb.c5; have q6 := hb.c6; have q7 := hb.c7; have q8 := hb.c8; have q9 := hb.c9; go_simp; with_reducible rfl
  try simp only [Act.put]
  refine wpAnyH_take (i := 8) (v := ?_) rfl (by kernel_rfl) (by kernel_rfl) (by kernel_rfl) (fun _ _ _ h => h) (Or.inl ⟨by rfl, ?_⟩) hS ?_
  rotate_left 1
  · intro w hSw; obtain ⟨_, hb⟩ := hSw; have q0 := hb.c0; have q1 := hb.c1; have q2 := hb.c2; have q3 := hb.c3; have q4 := hb.c4; have q5 := hb.c5; have q6 := hb.c6; have q7 := hb.c7; have q8 := hb.c8; have q9 := hb.c9; go_simp; with_reducible rfl
  try simp only [Act.put]
  refine wpAnyH_take (i := 9) (v := ?_) rfl (by kernel_rfl) (by kernel_rfl) (by kernel_rfl) (fun _ _ _ h => h) (Or.inl ⟨by rfl, ?_⟩) hS ?_
  rotate_left 1
  · intro w hSw; obtain ⟨_, hb⟩ := hSw; have q0 := hb.c0; have q1 := hb.c1; have q2 := hb.c2; have q3 := hb.c3; have q4 := hb.c4; have q5 := hb.c5; have q6 := hb.c6; have q7 := hb.c7; have q8 := hb.c8; have q9 := hb.c9; go_simp; with_reducible rfl
  try simp only [Act.put]
  refine wpAnyH_done (by kernel_rfl) ?_ _
  simp only [List.setIfInBounds_toArray, List.set_cons_zero, List.set_cons_succ, List.getElem_toArray, List.getElem_cons_succ, List.getElem_cons_zero]
  go_wp2_with fail
  go_ret2
  unfold WrYes
  rw [HLL.out]
  exact ⟨g2, c2, rfl, O2.out, hF1.trans hS.1⟩

/-- The bytes of a packet turned. -/
def trn (xs : List UInt8) : List UInt8 := put2 (put2 (put2 (put2 (xs.take (totN xs)) 12 (lg xs 16 / 65536)) 14 (lg xs 16 % 65536)) 16 (lg xs 12 / 65536)) 18 (lg xs 12 % 65536)
set_option maxHeartbeats 1000000 in
theorem turn_no (A : Option Addr) (n c : Nat) (xs : List UInt8) (w : World) (hl : xs.length = n) (hrd : Rd w A (B8 xs)) (hnc : n ≤ c) (hn : n ≤ 140737488351232) (hf : faultN xs ≠ 0) :
    Calls Try.prog 19 #[.slice A n c] w (NoP (faultN xs) w) := by
  have cR := read_no A n c xs w hl hrd hnc hn hf
  unfold RdNo at cR
  unfold NoP
  have hd : (((faultN xs : Nat) : Int) != 0) = true := by rw [bne_iff_ne]; omega
  generalize faultN xs = z at cR hd ⊢
  have CR := Lib.hid cR
  clear cR hl hrd hf
  go_enter Try.func19, Try.ntmps19
  go_wp2_with fail
  refine CR.out.mono ?_
  rintro e w1 ⟨rfl, hF1⟩
  go_wp2_with fail
  go_ret2
  refine ⟨rfl, ?_⟩
  exact hF1.alloc _
def TurnP (w : World) (l : List UInt8) (N : Nat) (e : Ending) (w' : World) : Prop :=
  ∃ g c, e = .returned (.tuple #[.slice (some ⟨g, 0, none⟩) N c, .int .i64 0]) ∧ w'.ownsRow w.heap.size 5 1 (.slice (some ⟨g, 0, none⟩) N c) N (B8 l) ∧ Fr [] w w'
set_option maxHeartbeats 4000000 in
theorem turn_yes (A : Option Addr) (n c : Nat) (xs : List UInt8) (w : World) (hl : xs.length = n) (hrd : Rd w A (B8 xs)) (hnc : n ≤ c) (hn : n ≤ 140737488351232) (g : Good xs) :
    Calls Try.prog 19 #[.slice A n c] w (TurnP w (trn xs) (totN xs)) := by
  have hsz := g.sz
  have htt := g.tot
  have cR := read_yes A n c xs w hl hrd hnc hn g
  have htl : (xs.take (totN xs)).length = totN xs := by rw [List.length_take]; omega
  have cC := fun W (hW : Fr [] w W) => bclone A (totN xs) c (xs.take (totN xs)) W htl (by rw [← B8_take]; exact (hrd.fr hW (by simp)).take _) (by omega)
  have b1 : (0 : Int) ≤ (totN xs : Int) ∧ (totN xs : Int) ≤ (c : Int) := by omega
  have b3 : (totN xs : Int) ≤ (c : Int) := by omega
  have lsrc := (hdOf_b xs).src
  have ldst := (hdOf_b xs).dst
  have e1 : (hdOf xs).src = lg xs 12 := rfl
  have e2 : (hdOf xs).dst = lg xs 16 := rfl
  unfold trn
  rw [← e1, ← e2]
  unfold CloneP at cC
  rw [htl] at cC
  have t20 : 20 ≤ totN xs := by omega
  have tle : totN xs ≤ 140737488351232 := by omega
  generalize xs.take (totN xs) = L at *
  have HR := Lib.hid cR
  have HC := Lib.hid cC
  clear cR cC hl hrd g hsz htt htl e1 e2
  go_enter Try.func19, Try.ntmps19
  go_wp2_with fail
  refine HR.out.mono ?_
  rintro e w1 ⟨A', c', rfl, o1, hF1⟩
  generalize hdOf xs = h at *
  clear HR o1
  unfold HV
  have hFx : Fr [] w (w1.alloc (.cells #[.int .u8 h.tos, .int .u16 h.id, .bool h.df, .bool h.mf, .int .i64 h.off, .int .u8 h.ttl, .int .u8 h.proto, .int .u32 h.src, .int .u32 h.dst, .slice A' (szN xs - 20) c'] 30)) := hF1.alloc _
  have hBx : BoxH (w1.alloc (.cells #[.int .u8 h.tos, .int .u16 h.id, .bool h.df, .bool h.mf, .int .i64 h.off, .int .u8 h.ttl, .int .u8 h.proto, .int .u32 h.src, .int .u32 h.dst, .slice A' (szN xs - 20) c'] 30)) w1.heap.size h A' (szN xs - 20) c' := heap_alloc_new w1 _
  have HBX := Lib.hid hBx
  have hszx := hFx.size
  clear hBx
  go_wp2_with fail
  refine (HC.out _ hFx).mono ?_
  rintro e w2 ⟨A2, c2, rfl, o2, hF2⟩
  have hlt2 : w1.heap.size < (w1.alloc (.cells #[.int .u8 h.tos, .int .u16 h.id, .bool h.df, .bool h.mf, .int .i64 h.off, .int .u8 h.ttl, .int .u8 h.proto, .int .u32 h.src, .int .u32 h.dst, .slice A' (szN xs - 20) c'] 30)).heap.size := by simp
  obtain ⟨g2, c3, he, hg2, _, _⟩ := own_some o2 (by omega)
  simp only [Value.slice.injEq, true_and] at he
  obtain ⟨rfl, rfl⟩ := he
  have B2 := HBX.out.fr hF2 (by simp)
  have hgne : w1.heap.size ∉ [g2] := by simp; omega
  have s8 := B2.c8
  have O2 := Lib.hid o2
  clear o2
  go_wp2_with fail
  refine (putLong_any (n := totN xs) (k := 12) (v := h.dst) O2.out 12 rfl (by omega) tle ldst).mono ?_
  rintro e w3 ⟨⟨r, rfl⟩, o3, hF3⟩
  have B3 := B2.fr hF3 hgne
  clear s8
  have s7 := B3.c7
  have O3 := Lib.hid o3
  clear o3
  go_wp2_with fail
  refine (putLong_any (n := totN xs) (k := 16) (v := h.src) O3.out 16 rfl (by omega) tle lsrc).mono ?_
  rintro e w4 ⟨⟨r, rfl⟩, o4, hF4⟩
  have O4 := Lib.hid (own_ext o4 hszx)
  have hFF : Fr [] w w4 := (hFx.trans hF2).trans2 (hF3.trans hF4) (by intro t ht; rw [List.mem_singleton] at ht; subst ht; exact .inr (by omega))
  clear s7 o4
  go_wp2_with fail
  go_ret2
  exact ⟨g2, c2, rfl, O4.out, hFF⟩
end Go.Proofs.Ytjpcfphmejenoaa
