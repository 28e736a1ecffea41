/- Write, Read. -/
import Derived.Test.YtjpcfphmejenoaaIpb
namespace Go.Proofs.Ytjpcfphmejenoaa
open Go.RowKit
set_option linter.unusedVariables false
set_option maxRecDepth 100000

def WrNo (w : World) (e : Ending) (w' : World) : Prop := e = .returned (.tuple #[.slice none 0 0, .int .i64 2]) ∧ Fr [] w w'
set_option maxHeartbeats 2000000 in
theorem write_no (h : Hd) (A A2 : Option Addr) (n c m c2 : Nat) (w : World) (hl : h.o.length = n) (hn : n ≤ 140737488351232) (ho : -9223372036854775808 ≤ h.off ∧ h.off ≤ 9223372036854775807) (hr : rightB h m = false) :
    Calls Try.prog 11 #[HV h A n c, .slice A2 m c2] w (WrNo w) := by
  have cR := fun W => right5_any h A n c (m : Int) W hl hn ho
  rw [hr] at cR
  unfold HV at cR ⊢
  have hF : Fr [] w (w.alloc (.cells #[.int .u8 h.tos, .int .u16 h.id, .bool h.df, .bool h.mf, .int .i64 h.off, .int .u8 h.ttl, .int .u8 h.proto, .int .u32 h.src, .int .u32 h.dst, .slice A n c] 30)) := (Fr.refl _ _).alloc _
  have CR := Lib.hid cR
  clear cR hl ho hr
  go_enter Try.func11, Try.ntmps11
  go_wp2_with fail
  refine (CR.out _).mono ?_
  rintro e w1 ⟨rfl, hF1⟩
  go_wp2_with fail
  go_ret2
  exact ⟨rfl, hF.trans hF1⟩

/-- A packet that has been written. -/
def WrYes (w : World) (l : List UInt8) (e : Ending) (w' : World) : Prop :=
  ∃ g c, e = .returned (.tuple #[.slice (some ⟨g, 0, none⟩) l.length c, .int .i64 0]) ∧ w'.ownsRow w.heap.size 5 1 (.slice (some ⟨g, 0, none⟩) l.length c) l.length (B8 l) ∧ Fr [] w w'
set_option maxHeartbeats 1000000 in
theorem write_yes (h : Hd) (d : List UInt8) (A A2 : Option Addr) (n c m c2 : Nat) (w : World) (hl : h.o.length = n) (hrd : Rd w A (B8 h.o)) (hnil : A = none → c = 0) (hd : d.length = m) (hrd2 : Rd w A2 (B8 d)) (hnil2 : A2 = none → c2 = 0) (f : Fits h m) :
    Calls Try.prog 11 #[HV h A n c, .slice A2 m c2] w (WrYes w (wrN h d)) := by
  have cR := fun W => right5_any h A n c (m : Int) W hl (by have := f.o; omega) f.b.off
  rw [f.right] at cR
  have ho := f.o
  have hoff := f.off
  have hn := f.n
  obtain ⟨N, hN⟩ : ∃ N, N = 20 + n := ⟨_, rfl⟩
  obtain ⟨tot, ht⟩ : ∃ tot, tot = N + m := ⟨_, rfl⟩
  have cB := fun W (hW : Fr [] w W) => hbytes_any h A n c m tot N W hl (hrd.fr hW (by simp)) f.b hoff.1 (by omega) (by omega) (by omega) hN ht (by omega) hnil
  have hpl : (pk h tot 0).length = N := by rw [pk_length]; omega
  have cF := fun W (g cc : Nat) (hr : Rd W (some ⟨g, 0, none⟩) (B8 (pk h tot 0))) => fix_yes (some ⟨g, 0, none⟩) N cc (pk h tot 0) 10 W hpl hr (by omega) rfl (by omega)
  have hWL : (wrN h d).length = N + m := by rw [wrN_length]; omega
  have hwr : wrN h d = hdrN h tot ++ d := by unfold wrN; rw [show 20 + h.o.length + d.length = tot by omega]
  unfold WrYes
  rw [hWL, hwr]
  have CR := Lib.hid cR
  have CB := Lib.hid cB
  have CF := Lib.hid cF
  have HD := Lib.hid hd
  have HNL := Lib.hid hnil2
  have hNm : N + m ≤ 66000 := by omega
  have hN0 : 0 < N := by omega
  unfold HV at CR CB ⊢
  have hF : Fr [] w (w.alloc (.cells #[.int .u8 h.tos, .int .u16 h.id, .bool h.df, .bool h.mf, .int .i64 h.off, .int .u8 h.ttl, .int .u8 h.proto, .int .u32 h.src, .int .u32 h.dst, .slice A n c] 30)) := (Fr.refl _ _).alloc _
  have hBx : BoxH (w.alloc (.cells #[.int .u8 h.tos, .int .u16 h.id, .bool h.df, .bool h.mf, .int .i64 h.off, .int .u8 h.ttl, .int .u8 h.proto, .int .u32 h.src, .int .u32 h.dst, .slice A n c] 30)) w.heap.size h A n c := heap_alloc_new w _
  have HBX := Lib.hid hBx
  clear cR cB cF hl hrd hnil hd hnil2 f ho hoff hn hN ht hpl hWL hwr hBx
  go_enter Try.func11, Try.ntmps11
  go_wp2_with fail
  refine (CR.out _).mono ?_
  rintro e w1 ⟨rfl, hF1⟩
  have B1 := HBX.out.fr hF1 (by simp)
  replace hF := hF.trans hF1
  have s0 := B1.c0
  have s1 := B1.c1
  have s2 := B1.c2
  have s3 := B1.c3
  have s4 := B1.c4
  have s5 := B1.c5
  have s6 := B1.c6
  have s7 := B1.c7
  have s8 := B1.c8
  have s9 := B1.c9
  clear hF1 B1
  go_wp2_with fail
  refine (CB.out _ hF).mono ?_
  rintro e w2 ⟨g, cc, rfl, o2, hF2⟩
  replace hF := hF.trans hF2
  clear s0 s1 s2 s3 s4 s5 s6 s7 s8 s9 hF2
  go_wp2_with fail
  refine (CF.out w2 g cc (Rd.own o2)).mono ?_
  rintro e w3 ⟨g3, c3, rfl, o3, hF3⟩
  rw [fixed_pk] at o3
  have hszw := hF.size
  replace hF := hF.trans hF3
  obtain ⟨v', w4, hr, o4, hg4, _⟩ := app_run el8 w3 w.heap.size 23 (.slice (some ⟨g3, 0, none⟩) N c3) N _ (own_ext o3 hszw) A2 m c2 (B8 d) (by rw [B8_length, HD.out]; omega) (hrd2.fr hF (by simp)) (B8_one _) HNL.out (by unfold maxLen; omega) (by omega) hF.size
  have hF4 : Fr [] w w4 := hF.grown hg4 (fun k hk => .inr (by have := (o3.lt k hk).1; omega))
  rw [← B8_append] at o4
  obtain ⟨g4, c4, rfl, _, _, _⟩ := own_some o4 (by omega)
  have O4 := Lib.hid o4
  clear o2 o3 hF3 hg4 o4 hrd2
  go_wp2_with (at_builtin; refine wpList_app rfl _ _ _ rfl hr rfl rfl ?_)
  go_ret2
  exact ⟨g4, c4, rfl, O4.out, hF4⟩

theorem own_setC {w : World} {base : Nat} {e : TypeId} {v : Value} {n g : Nat} {xs : List Value} (h : w.ownsRow base e 1 v n xs) (hg : g < base) (o : Nat) (u : Value) : (w.setCell ⟨g, o, none⟩ u).ownsRow base e 1 v n xs :=
  ((Fr.refl [g] w).setCell (p := ⟨g, o, none⟩) (.inl (by simp)) u).own h (fun k hk => by have := (h.lt k hk).1; simp; omega)
def Hd0 : Hd := ⟨0, 0, false, false, 0, 0, 0, 0, 0, []⟩
def RdNo (xs : List UInt8) (w : World) (e : Ending) (w' : World) : Prop :=
  e = .returned (.tuple #[.agg #[.int .u8 0, .int .u16 0, .bool false, .bool false, .int .i64 0, .int .u8 0, .int .u8 0, .int .u32 0, .int .u32 0, .slice none 0 0], .int .i64 0, .int .i64 0, .int .i64 (faultN xs : Nat)]) ∧ Fr [] w w'
def RdYes (xs : List UInt8) (w : World) (e : Ending) (w' : World) : Prop :=
  ∃ (A' : Option Addr) (c' : Nat), e = .returned (.tuple #[HV (hdOf xs) A' (szN xs - 20) c', .int .i64 (szN xs : Nat), .int .i64 (totN xs : Nat), .int .i64 0]) ∧ w'.ownsRow w.heap.size 5 1 (.slice A' (szN xs - 20) c') (szN xs - 20) (B8 (hdOf xs).o) ∧ Fr [] w w'
set_option maxHeartbeats 1000000 in
theorem read_no (A : Option Addr) (n c : Nat) (xs : List UInt8) (w : World) (hl : xs.length = n) (hrd : Rd w A (B8 xs)) (hnc : n ≤ c) (hn : n ≤ 140737488351232) (hf : faultN xs ≠ 0) :
    Calls Try.prog 15 #[.slice A n c] w (RdNo xs w) := by
  have cF := fun W (hW : Fr [] w W) => fault_any A n c xs W hl (hrd.fr hW (by simp)) hnc hn
  unfold RdNo
  have hd : (((faultN xs : Nat) : Int) != 0) = true := by rw [bne_iff_ne]; omega
  generalize faultN xs = z at cF hd ⊢
  have CF := Lib.hid cF
  have hF : Fr [] w (w.alloc (.cells #[.int .u8 0, .int .u16 0, .bool false, .bool false, .int .i64 0, .int .u8 0, .int .u8 0, .int .u32 0, .int .u32 0, .slice none 0 0] 30)) := (Fr.refl _ _).alloc _
  have hB : (w.alloc (.cells #[.int .u8 0, .int .u16 0, .bool false, .bool false, .int .i64 0, .int .u8 0, .int .u8 0, .int .u32 0, .int .u32 0, .slice none 0 0] 30)).heap[w.heap.size]? = some (.cells #[.int .u8 0, .int .u16 0, .bool false, .bool false, .int .i64 0, .int .u8 0, .int .u8 0, .int .u32 0, .int .u32 0, .slice none 0 0] 30 (0, 0)) := heap_alloc_new w _
  have HB := Lib.hid hB
  clear cF hl hrd hf hB
  go_enter Try.func15, Try.ntmps15
  go_wp2_with fail
  refine (CF.out _ hF).mono ?_
  rintro e w1 ⟨rfl, hF1⟩
  have hB1 := hF1.blk HB.out (by simp)
  replace hF := hF.trans hF1
  have z0 : w1.cell? ⟨w.heap.size, 0, none⟩ = some (.int .u8 0) := by simp [World.cell?, hB1]
  have f0 : w1.frozen? ⟨w.heap.size, 0, none⟩ = false := by simp [World.frozen?, hB1]
  have z1 : w1.cell? ⟨w.heap.size, 1, none⟩ = some (.int .u16 0) := by simp [World.cell?, hB1]
  have f1 : w1.frozen? ⟨w.heap.size, 1, none⟩ = false := by simp [World.frozen?, hB1]
  have z2 : w1.cell? ⟨w.heap.size, 2, none⟩ = some (.bool false) := by simp [World.cell?, hB1]
  have f2 : w1.frozen? ⟨w.heap.size, 2, none⟩ = false := by simp [World.frozen?, hB1]
  have z3 : w1.cell? ⟨w.heap.size, 3, none⟩ = some (.bool false) := by simp [World.cell?, hB1]
  have f3 : w1.frozen? ⟨w.heap.size, 3, none⟩ = false := by simp [World.frozen?, hB1]
  have z4 : w1.cell? ⟨w.heap.size, 4, none⟩ = some (.int .i64 0) := by simp [World.cell?, hB1]
  have f4 : w1.frozen? ⟨w.heap.size, 4, none⟩ = false := by simp [World.frozen?, hB1]
  have z5 : w1.cell? ⟨w.heap.size, 5, none⟩ = some (.int .u8 0) := by simp [World.cell?, hB1]
  have f5 : w1.frozen? ⟨w.heap.size, 5, none⟩ = false := by simp [World.frozen?, hB1]
  have z6 : w1.cell? ⟨w.heap.size, 6, none⟩ = some (.int .u8 0) := by simp [World.cell?, hB1]
  have f6 : w1.frozen? ⟨w.heap.size, 6, none⟩ = false := by simp [World.frozen?, hB1]
  have z7 : w1.cell? ⟨w.heap.size, 7, none⟩ = some (.int .u32 0) := by simp [World.cell?, hB1]
  have f7 : w1.frozen? ⟨w.heap.size, 7, none⟩ = false := by simp [World.frozen?, hB1]
  have z8 : w1.cell? ⟨w.heap.size, 8, none⟩ = some (.int .u32 0) := by simp [World.cell?, hB1]
  have f8 : w1.frozen? ⟨w.heap.size, 8, none⟩ = false := by simp [World.frozen?, hB1]
  have z9 : w1.cell? ⟨w.heap.size, 9, none⟩ = some (.slice none 0 0) := by simp [World.cell?, hB1]
  have f9 : w1.frozen? ⟨w.heap.size, 9, none⟩ = false := by simp [World.frozen?, hB1]
  clear hF1 hB1
  go_wp2_with fail
  refine bodyPost_ret (v := .tuple #[.agg #[.int .u8 0, .int .u16 0, .bool false, .bool false, .int .i64 0, .int .u8 0, .int .u8 0, .int .u32 0, .int .u32 0, .slice none 0 0], .int .i64 0, .int .i64 0, .int .i64 (z : Int)]) (by simp [results, Try.results15, go_sem, z0, z1, z2, z3, z4, z5, z6, z7, z8, z9])  rfl ⟨rfl, ?_⟩
  repeat (refine Fr.setCell ?_ (.inr (Nat.le_refl _)) _)
  exact hF

set_option maxHeartbeats 1000000 in
theorem read_yes (A : Option Addr) (n c : Nat) (xs : List UInt8) (w : World) (hl : xs.length = n) (hrd : Rd w A (B8 xs)) (hnc : n ≤ c) (hn : n ≤ 140737488351232) (g : Good xs) :
    Calls Try.prog 15 #[.slice A n c] w (RdYes xs w) := by
  have hlen := g.len
  have hsz := g.sz
  have cF := fun W (hW : Fr [] w W) => fault_any A n c xs W hl (hrd.fr hW (by simp)) hnc hn
  rw [fault_of g] at cF
  have cH := fun W (hW : Fr [] w W) => header_any A n c xs W hl (hrd.fr hW (by simp)) hnc hn (by omega) (by omega) (by omega)
  have cS := fun W (hW : Fr [] w W) => size_any A n c xs W hl (hrd.fr hW (by simp)) (by omega)
  have cT := fun W (hW : Fr [] w W) => total_any A n c xs W hl (hrd.fr hW (by simp)) (by omega) hn
  have CF := Lib.hid cF
  have CH := Lib.hid cH
  have CS := Lib.hid cS
  have CT := Lib.hid cT
  have hF : Fr [] w (w.alloc (.cells #[.int .u8 0, .int .u16 0, .bool false, .bool false, .int .i64 0, .int .u8 0, .int .u8 0, .int .u32 0, .int .u32 0, .slice none 0 0] 30)) := (Fr.refl _ _).alloc _
  have hB : (w.alloc (.cells #[.int .u8 0, .int .u16 0, .bool false, .bool false, .int .i64 0, .int .u8 0, .int .u8 0, .int .u32 0, .int .u32 0, .slice none 0 0] 30)).heap[w.heap.size]? = some (.cells #[.int .u8 0, .int .u16 0, .bool false, .bool false, .int .i64 0, .int .u8 0, .int .u8 0, .int .u32 0, .int .u32 0, .slice none 0 0] 30 (0, 0)) := heap_alloc_new w _
  have HB := Lib.hid hB
  clear cF cH cS cT hl hrd hB hlen hsz g
  go_enter Try.func15, Try.ntmps15
  go_wp2_with fail
  refine (CF.out _ hF).mono ?_
  rintro e w1 ⟨rfl, hF1⟩
  replace HB := Lib.hid (hF1.blk HB.out (by simp))
  replace hF := hF.trans hF1
  clear hF1
  go_wp2_with fail
  refine (CH.out _ hF).mono ?_
  rintro e w2 ⟨A', c', rfl, o2, hF2⟩
  have hlt : w.heap.size < w1.heap.size := lt_of_block HB.out
  replace HB := Lib.hid (hF2.blk HB.out (by simp))
  replace hF := hF.trans hF2
  clear hF2
  go_wp2_with fail
  refine (CS.out _ hF).mono ?_
  rintro e w3 ⟨rfl, hF3⟩
  replace HB := Lib.hid (hF3.blk HB.out (by simp))
  replace o2 := hF3.own o2 (by simp)
  replace hF := hF.trans hF3
  clear hF3
  go_wp2_with fail
  refine (CT.out _ hF).mono ?_
  rintro e w4 ⟨rfl, hF4⟩
  replace HB := Lib.hid (hF4.blk HB.out (by simp))
  replace o2 := hF4.own o2 (by simp)
  replace hF := hF.trans hF4
  clear hF4
  generalize hHD : hdOf xs = H at *
  have HHD := Lib.hid hHD
  clear hHD
  have hB4 := HB.out
  have z0 : w4.cell? ⟨w.heap.size, 0, none⟩ = some (.int .u8 0) := by simp [World.cell?, hB4]
  have f0 : w4.frozen? ⟨w.heap.size, 0, none⟩ = false := by simp [World.frozen?, hB4]
  have z1 : w4.cell? ⟨w.heap.size, 1, none⟩ = some (.int .u16 0) := by simp [World.cell?, hB4]
  have f1 : w4.frozen? ⟨w.heap.size, 1, none⟩ = false := by simp [World.frozen?, hB4]
  have z2 : w4.cell? ⟨w.heap.size, 2, none⟩ = some (.bool false) := by simp [World.cell?, hB4]
  have f2 : w4.frozen? ⟨w.heap.size, 2, none⟩ = false := by simp [World.frozen?, hB4]
  have z3 : w4.cell? ⟨w.heap.size, 3, none⟩ = some (.bool false) := by simp [World.cell?, hB4]
  have f3 : w4.frozen? ⟨w.heap.size, 3, none⟩ = false := by simp [World.frozen?, hB4]
  have z4 : w4.cell? ⟨w.heap.size, 4, none⟩ = some (.int .i64 0) := by simp [World.cell?, hB4]
  have f4 : w4.frozen? ⟨w.heap.size, 4, none⟩ = false := by simp [World.frozen?, hB4]
  have z5 : w4.cell? ⟨w.heap.size, 5, none⟩ = some (.int .u8 0) := by simp [World.cell?, hB4]
  have f5 : w4.frozen? ⟨w.heap.size, 5, none⟩ = false := by simp [World.frozen?, hB4]
  have z6 : w4.cell? ⟨w.heap.size, 6, none⟩ = some (.int .u8 0) := by simp [World.cell?, hB4]
  have f6 : w4.frozen? ⟨w.heap.size, 6, none⟩ = false := by simp [World.frozen?, hB4]
  have z7 : w4.cell? ⟨w.heap.size, 7, none⟩ = some (.int .u32 0) := by simp [World.cell?, hB4]
  have f7 : w4.frozen? ⟨w.heap.size, 7, none⟩ = false := by simp [World.frozen?, hB4]
  have z8 : w4.cell? ⟨w.heap.size, 8, none⟩ = some (.int .u32 0) := by simp [World.cell?, hB4]
  have f8 : w4.frozen? ⟨w.heap.size, 8, none⟩ = false := by simp [World.frozen?, hB4]
  have z9 : w4.cell? ⟨w.heap.size, 9, none⟩ = some (.slice none 0 0) := by simp [World.cell?, hB4]
  have f9 : w4.frozen? ⟨w.heap.size, 9, none⟩ = false := by simp [World.frozen?, hB4]
  have HLT := Lib.hid hlt
  have O2 := Lib.hid o2
  clear HB hB4 o2 hlt
  unfold HV
  go_wp2_with fail
  refine bodyPost_ret (v := .tuple #[.agg #[.int .u8 H.tos, .int .u16 H.id, .bool H.df, .bool H.mf, .int .i64 H.off, .int .u8 H.ttl, .int .u8 H.proto, .int .u32 H.src, .int .u32 H.dst, .slice A' (szN xs - 20) c'], .int .i64 (szN xs : Nat), .int .i64 (totN xs : Nat), .int .i64 0]) (by simp [results, Try.results15, go_sem, z0, z1, z2, z3, z4, z5, z6, z7, z8, z9]) rfl ?_
  unfold RdYes
  rw [HHD.out]
  refine ⟨A', c', rfl, ?_, ?_⟩
  · refine own_ext (base := w1.heap.size) ?_ (Nat.le_of_lt HLT.out)
    repeat (refine own_setC ?_ HLT.out _ _)
    exact O2.out
  · repeat (refine Fr.setCell ?_ (.inr (Nat.le_refl _)) _)
    exact hF
end Go.Proofs.Ytjpcfphmejenoaa
