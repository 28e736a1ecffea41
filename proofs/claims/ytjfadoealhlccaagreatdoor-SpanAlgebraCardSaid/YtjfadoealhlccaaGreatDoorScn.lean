/- SpanCounts. -/
import Derived.Test.YtjfadoealhlccaaGreatDoorSnx
namespace Go.Proofs.YtjfadoealhlccaaGreatDoor
open Go.RowKit
set_option linter.unusedVariables false
set_option maxRecDepth 100000

/-- An array of numbers in a block. -/
def NR (w : World) (g : Nat) (xs : List Nat) : Prop := w.heap[g]? = some (.cells (xs.map fun x : Nat => Value.int .i64 (x : Int)).toArray 43 (0, 0))
theorem NR.cell {w : World} {g : Nat} {xs : List Nat} (h : NR w g xs) {j x : Nat} (hx : xs[j]? = some x) : w.cell? ⟨g, j, none⟩ = some (.int .i64 x) := by
  unfold NR at h
  simp [World.cell?, h, hx]
theorem NR.fz {w : World} {g : Nat} {xs : List Nat} (h : NR w g xs) (j : Nat) : w.frozen? ⟨g, j, none⟩ = false := by
  unfold NR at h; simp [World.frozen?, h]
theorem NR.fr {w w' : World} {g : Nat} {xs : List Nat} (h : NR w g xs) (hF : Fr [] w w') : NR w' g xs := hF.blk h (by simp)
theorem NR.set {w : World} {g : Nat} {xs : List Nat} (h : NR w g xs) (j x : Nat) : NR (w.setCell ⟨g, j, none⟩ (.int .i64 x)) g (xs.set j x) := by
  unfold NR at h ⊢
  simp [World.setCell, Array.getElem?_modify, h, List.map_set]
/-- Slices in a block. -/
def SR6 (w : World) (g : Nat) (vs : List Value) : Prop := ∀ j v, vs[j]? = some v → w.cell? ⟨g, j, none⟩ = some v
theorem SR6.fr {w w' : World} {g : Nat} {vs : List Value} {S : List Nat} (h : SR6 w g vs) (hF : Fr S w w') (hg : g ∉ S) : SR6 w' g vs := fun j v hj => hF.cell (h j v hj) hg
theorem err1 {s : ArgS} (hn : s.n ≤ 4096) (hr : RSf 0 s.l) : errS [s] = 0 := errS_ok fun x hx => by
  simp only [List.mem_cons, List.not_mem_nil, or_false] at hx; subst hx; exact ⟨hn, hr⟩
theorem err2 {s t : ArgS} (hn : s.n ≤ 4096) (hr : RSf 0 s.l) (kn : t.n ≤ 4096) (kr : RSf 0 t.l) : errS [s, t] = 0 := errS_ok fun x hx => by
  simp only [List.mem_cons, List.not_mem_nil, or_false] at hx; rcases hx with rfl | rfl; exact ⟨hn, hr⟩; exact ⟨kn, kr⟩
theorem others_has {l o : List Sp} (h : Comb (fun p q => p && !q) [(0, 4294967295)] l o) : ∀ n, hasS o n ↔ n < 4294967296 ∧ ¬ hasS l n := fun n => by
  rw [h.has]
  simp only [tkS, Bool.and_eq_true, decide_eq_true_eq, Bool.not_eq_true', decide_eq_false_iff_not, hasS_one]
  constructor
  · rintro ⟨h1, _, h3⟩; exact ⟨h1, h3⟩
  · rintro ⟨h1, h3⟩; exact ⟨h1, ⟨Nat.zero_le _, by omega⟩, h3⟩

set_option maxHeartbeats 8000000 in
theorem scounts_any (A : Option Addr) (n c : Nat) (l : List (Nat × Nat × Bool)) (A' : Option Addr) (n' c' : Nat) (l' : List (Nat × Nat × Bool)) (w : World) (hV : VV w) (hq : ArgQ w A n c l) (hq' : ArgQ w A' n' c' l') :
    Calls Tryz.prog 4 #[.slice A n c, .slice A' n' c'] w fun e w' => e = .returned (.bool true) ∧ Fr [] w w' := by
  have HQ := Lib.hid hq
  have HQ' := Lib.hid hq'
  clear hq hq'
  go_enter Tryz.func4, Tryz.ntmps4
  go_wp2_with fail
  refine (awake_any w hV).mono ?_
  rintro e w1 ⟨rfl, hF⟩
  clear hV
  go_wp2_with fail
  refine (made_any A n c l w1 (HQ.out.fr hF)).mono ?_
  rintro e w2 ⟨a, rfl, hRa, hna, hSa⟩
  replace hF := hF.trans hSa.fr
  have oa := hSa.ok
  clear hSa HQ
  go_wp2_with fail
  refine (made_any A' n' c' l' w2 (HQ'.out.fr hF)).mono ?_
  rintro e w3 ⟨b, rfl, hRb, hnb, hSb⟩
  replace hF := hF.trans hSb.fr
  have ob := hSb.ok
  replace oa := oa.fr hSb.fr
  clear hSb HQ'
  have e2 := err2 (s := a) (t := b) (by omega) hRa (by omega) hRb
  go_wp2_with fail
  refine (union_yes a b e2 w3 oa ob).mono ?_
  rintro e w4 ⟨u, rfl, hCu, hnu, hSu⟩
  replace hF := hF.trans hSu.fr
  have ou := hSu.ok
  replace oa := oa.fr hSu.fr
  replace ob := ob.fr hSu.fr
  have HCu := Lib.hid hCu
  have hmu : u.n ≤ 4096 := by rw [oa.len, ob.len] at hnu; omega
  clear hCu hnu hSu
  go_wp2_with fail
  refine (common_yes a b e2 w4 oa ob).mono ?_
  rintro e w5 ⟨c, rfl, hCc, hnc, hSc⟩
  replace hF := hF.trans hSc.fr
  have oc := hSc.ok
  replace oa := oa.fr hSc.fr
  replace ob := ob.fr hSc.fr
  replace ou := ou.fr hSc.fr
  have HCc := Lib.hid hCc
  have hmc : c.n ≤ 4096 := by rw [oa.len, ob.len] at hnc; omega
  clear hCc hnc hSc
  go_wp2_with fail
  refine (without_yes a b e2 w5 oa ob).mono ?_
  rintro e w6 ⟨d, rfl, hCd, hnd, hSd⟩
  replace hF := hF.trans hSd.fr
  have od := hSd.ok
  replace oa := oa.fr hSd.fr
  replace ob := ob.fr hSd.fr
  replace ou := ou.fr hSd.fr
  replace oc := oc.fr hSd.fr
  have HCd := Lib.hid hCd
  have hmd : d.n ≤ 4096 := by rw [oa.len, ob.len] at hnd; omega
  clear hCd hnd hSd
  go_wp2_with fail
  refine (others_yes a (err1 (by omega) hRa) w6 oa).mono ?_
  rintro e w7 ⟨o, rfl, hCo, hno, hSo⟩
  replace hF := hF.trans hSo.fr
  have oo := hSo.ok
  replace oa := oa.fr hSo.fr
  replace ob := ob.fr hSo.fr
  replace ou := ou.fr hSo.fr
  replace oc := oc.fr hSo.fr
  replace od := od.fr hSo.fr
  have HCo := Lib.hid hCo
  have hmo : o.n ≤ 4096 := by rw [oa.len] at hno; simp only [List.length_cons, List.length_nil] at hno; omega
  clear hCo hno hSo
  have hL := sz_laws hRa oa.sb hRb ob.sb HCu.out HCc.out HCd.out HCo.out.rs oo.sb (others_has HCo.out)
  have ba := szS_le hRa oa.sb
  have Ka := Lib.hid (fun W (hW : Fr [] w7 W) => count_yes a (err1 (by omega) hRa) W (oa.fr hW))
  have bb := szS_le hRb ob.sb
  have Kb := Lib.hid (fun W (hW : Fr [] w7 W) => count_yes b (err1 (by omega) hRb) W (ob.fr hW))
  have bu := szS_le HCu.out.rs ou.sb
  have Ku := Lib.hid (fun W (hW : Fr [] w7 W) => count_yes u (err1 (by omega) HCu.out.rs) W (ou.fr hW))
  have bcc := szS_le HCc.out.rs oc.sb
  have Kc := Lib.hid (fun W (hW : Fr [] w7 W) => count_yes c (err1 (by omega) HCc.out.rs) W (oc.fr hW))
  have bd := szS_le HCd.out.rs od.sb
  have Kd := Lib.hid (fun W (hW : Fr [] w7 W) => count_yes d (err1 (by omega) HCd.out.rs) W (od.fr hW))
  have bo := szS_le HCo.out.rs oo.sb
  have Ko := Lib.hid (fun W (hW : Fr [] w7 W) => count_yes o (err1 (by omega) HCo.out.rs) W (oo.fr hW))
  obtain ⟨za, zb, zu, zc, zd, zo, hz⟩ : ∃ za zb zu zc zd zo : Nat, za = szS a.l ∧ zb = szS b.l ∧ zu = szS u.l ∧ zc = szS c.l ∧ zd = szS d.l ∧ zo = szS o.l := ⟨_, _, _, _, _, _, rfl, rfl, rfl, rfl, rfl, rfl⟩
  obtain ⟨ya, yb, yu, yc, yd, yo⟩ := hz
  rw [← ya] at Ka ba
  rw [← yb] at Kb bb
  rw [← yu] at Ku bu
  rw [← yc] at Kc bcc
  rw [← yd] at Kd bd
  rw [← yo] at Ko bo
  rw [← ya, ← yb, ← yu, ← yc, ← yd, ← yo] at hL
  clear ya yb yu yc yd yo oa ob ou oc od oo hRa hRb HCu HCc HCd HCo e2
  obtain ⟨aA, an, ac, al⟩ := a
  obtain ⟨bA, bn, bc, bl⟩ := b
  obtain ⟨uA, un, uc, ul⟩ := u
  obtain ⟨cA, cn, cc, cl⟩ := c
  obtain ⟨dA, dn, dc, dl⟩ := d
  obtain ⟨oA, on, oc, ol⟩ := o
  have hN0 : NR (w7.alloc (.cells #[.int .i64 0, .int .i64 0, .int .i64 0, .int .i64 0, .int .i64 0, .int .i64 0] 43)) w7.heap.size [0, 0, 0, 0, 0, 0] := heap_alloc_new w7 _
  have hF8 : Fr [] w7 (w7.alloc (.cells #[.int .i64 0, .int .i64 0, .int .i64 0, .int .i64 0, .int .i64 0, .int .i64 0] 43)) := (Fr.refl _ _).alloc _
  have hSR0 : SR6 ((w7.alloc (.cells #[.int .i64 0, .int .i64 0, .int .i64 0, .int .i64 0, .int .i64 0, .int .i64 0] 43)).alloc (.cells #[.slice aA an ac, .slice bA bn bc, .slice uA un uc, .slice cA cn cc, .slice dA dn dc, .slice oA on oc] 26)) (w7.heap.size + 1) [.slice aA an ac, .slice bA bn bc, .slice uA un uc, .slice cA cn cc, .slice dA dn dc, .slice oA on oc] := fun j v hj => by
    have := new_cell (w7.alloc (.cells #[.int .i64 0, .int .i64 0, .int .i64 0, .int .i64 0, .int .i64 0, .int .i64 0] 43)) #[.slice aA an ac, .slice bA bn bc, .slice uA un uc, .slice cA cn cc, .slice dA dn dc, .slice oA on oc] 26 j v (by simpa using hj)
    simpa using this
  have hF9 : Fr [w7.heap.size] w7 ((w7.alloc (.cells #[.int .i64 0, .int .i64 0, .int .i64 0, .int .i64 0, .int .i64 0, .int .i64 0] 43)).alloc (.cells #[.slice aA an ac, .slice bA bn bc, .slice uA un uc, .slice cA cn cc, .slice dA dn dc, .slice oA on oc] 26)) := ((Fr.refl _ _).alloc _).alloc _
  have hN9 := hN0.fr (((Fr.refl [] _).alloc (.cells #[.slice aA an ac, .slice bA bn bc, .slice uA un uc, .slice cA cn cc, .slice dA dn dc, .slice oA on oc] 26)))
  have hK9 : Fr [] w7 ((w7.alloc (.cells #[.int .i64 0, .int .i64 0, .int .i64 0, .int .i64 0, .int .i64 0, .int .i64 0] 43)).alloc (.cells #[.slice aA an ac, .slice bA bn bc, .slice uA un uc, .slice cA cn cc, .slice dA dn dc, .slice oA on oc] 26)) := ((Fr.refl _ _).alloc _).alloc _
  have hgs : w7.heap.size + 1 ∉ [w7.heap.size] := by simp
  clear hN0 hF8 hF9
  have SR0 := Lib.hid hSR0
  have NR0 := Lib.hid hN9
  clear hSR0 hN9
  go_wp2_with fail
  refine wp_loop_rounds 7 ?_
  have sc0 := SR0.out 0 _ rfl
  rw [rounds_succ]
  go_wp2_with fail
  refine (Ka.out _ hK9).mono ?_
  rintro e x0 ⟨rfl, G0⟩
  clear sc0
  have nr0 := NR0.out.fr G0
  have nc0 := nr0.cell (j := 0) (x := 0) rfl
  have nf0 := nr0.fz 0
  replace hK9 : Fr [] w7 (x0.setCell ⟨w7.heap.size, 0, none⟩ (.int .i64 za)) := (hK9.trans G0).setCell (.inr (Nat.le_refl _)) _
  replace SR0 := Lib.hid ((SR0.out.fr G0 (by simp)).fr ((Fr.refl [w7.heap.size] _).setCell (p := ⟨w7.heap.size, 0, none⟩) (.inl (by simp)) (.int .i64 za)) hgs)
  replace NR0 := Lib.hid (nr0.set 0 za)
  clear nr0 G0
  go_wp2_with fail
  clear nc0 nf0
  generalize x0.setCell ⟨w7.heap.size, 0, none⟩ (.int .i64 za) = v0 at hK9 SR0 NR0 ⊢
  have sc1 := SR0.out 1 _ rfl
  rw [rounds_succ]
  go_wp2_with fail
  refine (Kb.out _ hK9).mono ?_
  rintro e x1 ⟨rfl, G1⟩
  clear sc1
  have nr1 := NR0.out.fr G1
  have nc1 := nr1.cell (j := 1) (x := 0) rfl
  have nf1 := nr1.fz 1
  replace hK9 : Fr [] w7 (x1.setCell ⟨w7.heap.size, 1, none⟩ (.int .i64 zb)) := (hK9.trans G1).setCell (.inr (Nat.le_refl _)) _
  replace SR0 := Lib.hid ((SR0.out.fr G1 (by simp)).fr ((Fr.refl [w7.heap.size] _).setCell (p := ⟨w7.heap.size, 1, none⟩) (.inl (by simp)) (.int .i64 zb)) hgs)
  replace NR0 := Lib.hid (nr1.set 1 zb)
  clear nr1 G1
  go_wp2_with fail
  clear nc1 nf1
  generalize x1.setCell ⟨w7.heap.size, 1, none⟩ (.int .i64 zb) = v1 at hK9 SR0 NR0 ⊢
  have sc2 := SR0.out 2 _ rfl
  rw [rounds_succ]
  go_wp2_with fail
  refine (Ku.out _ hK9).mono ?_
  rintro e x2 ⟨rfl, G2⟩
  clear sc2
  have nr2 := NR0.out.fr G2
  have nc2 := nr2.cell (j := 2) (x := 0) rfl
  have nf2 := nr2.fz 2
  replace hK9 : Fr [] w7 (x2.setCell ⟨w7.heap.size, 2, none⟩ (.int .i64 zu)) := (hK9.trans G2).setCell (.inr (Nat.le_refl _)) _
  replace SR0 := Lib.hid ((SR0.out.fr G2 (by simp)).fr ((Fr.refl [w7.heap.size] _).setCell (p := ⟨w7.heap.size, 2, none⟩) (.inl (by simp)) (.int .i64 zu)) hgs)
  replace NR0 := Lib.hid (nr2.set 2 zu)
  clear nr2 G2
  go_wp2_with fail
  clear nc2 nf2
  generalize x2.setCell ⟨w7.heap.size, 2, none⟩ (.int .i64 zu) = v2 at hK9 SR0 NR0 ⊢
  have sc3 := SR0.out 3 _ rfl
  rw [rounds_succ]
  go_wp2_with fail
  refine (Kc.out _ hK9).mono ?_
  rintro e x3 ⟨rfl, G3⟩
  clear sc3
  have nr3 := NR0.out.fr G3
  have nc3 := nr3.cell (j := 3) (x := 0) rfl
  have nf3 := nr3.fz 3
  replace hK9 : Fr [] w7 (x3.setCell ⟨w7.heap.size, 3, none⟩ (.int .i64 zc)) := (hK9.trans G3).setCell (.inr (Nat.le_refl _)) _
  replace SR0 := Lib.hid ((SR0.out.fr G3 (by simp)).fr ((Fr.refl [w7.heap.size] _).setCell (p := ⟨w7.heap.size, 3, none⟩) (.inl (by simp)) (.int .i64 zc)) hgs)
  replace NR0 := Lib.hid (nr3.set 3 zc)
  clear nr3 G3
  go_wp2_with fail
  clear nc3 nf3
  generalize x3.setCell ⟨w7.heap.size, 3, none⟩ (.int .i64 zc) = v3 at hK9 SR0 NR0 ⊢
  have sc4 := SR0.out 4 _ rfl
  rw [rounds_succ]
  go_wp2_with fail
  refine (Kd.out _ hK9).mono ?_
  rintro e x4 ⟨rfl, G4⟩
  clear sc4
  have nr4 := NR0.out.fr G4
  have nc4 := nr4.cell (j := 4) (x := 0) rfl
  have nf4 := nr4.fz 4
  replace hK9 : Fr [] w7 (x4.setCell ⟨w7.heap.size, 4, none⟩ (.int .i64 zd)) := (hK9.trans G4).setCell (.inr (Nat.le_refl _)) _
  replace SR0 := Lib.hid ((SR0.out.fr G4 (by simp)).fr ((Fr.refl [w7.heap.size] _).setCell (p := ⟨w7.heap.size, 4, none⟩) (.inl (by simp)) (.int .i64 zd)) hgs)
  replace NR0 := Lib.hid (nr4.set 4 zd)
  clear nr4 G4
  go_wp2_with fail
  clear nc4 nf4
  generalize x4.setCell ⟨w7.heap.size, 4, none⟩ (.int .i64 zd) = v4 at hK9 SR0 NR0 ⊢
  have sc5 := SR0.out 5 _ rfl
  rw [rounds_succ]
  go_wp2_with fail
  refine (Ko.out _ hK9).mono ?_
  rintro e x5 ⟨rfl, G5⟩
  clear sc5
  have nr5 := NR0.out.fr G5
  have nc5 := nr5.cell (j := 5) (x := 0) rfl
  have nf5 := nr5.fz 5
  replace hK9 : Fr [] w7 (x5.setCell ⟨w7.heap.size, 5, none⟩ (.int .i64 zo)) := (hK9.trans G5).setCell (.inr (Nat.le_refl _)) _
  replace SR0 := Lib.hid ((SR0.out.fr G5 (by simp)).fr ((Fr.refl [w7.heap.size] _).setCell (p := ⟨w7.heap.size, 5, none⟩) (.inl (by simp)) (.int .i64 zo)) hgs)
  replace NR0 := Lib.hid (nr5.set 5 zo)
  clear nr5 G5
  go_wp2_with fail
  clear nc5 nf5
  generalize x5.setCell ⟨w7.heap.size, 5, none⟩ (.int .i64 zo) = v5 at hK9 SR0 NR0 ⊢
  have m0 := NR0.out.cell (j := 0) (x := za) rfl
  have m1 := NR0.out.cell (j := 1) (x := zb) rfl
  have m2 := NR0.out.cell (j := 2) (x := zu) rfl
  have m3 := NR0.out.cell (j := 3) (x := zc) rfl
  have m4 := NR0.out.cell (j := 4) (x := zd) rfl
  have m5 := NR0.out.cell (j := 5) (x := zo) rfl
  have a1 : IntKind.i64.wrap ((za : Int) + zb) = (za : Int) + zb := IntWalk.i64_in _ (by omega)
  have a2 : IntKind.i64.wrap ((zu : Int) + zc) = (zu : Int) + zc := IntWalk.i64_in _ (by omega)
  have a3 : IntKind.i64.wrap ((za : Int) + zo) = (za : Int) + zo := IntWalk.i64_in _ (by omega)
  have a4 : IntKind.i64.wrap ((za : Int) - zc) = (za : Int) - zc := IntWalk.i64_in _ (by omega)
  have d1 : (((za : Int) + zb) == ((zu : Int) + zc)) = true := by rw [beq_iff_eq]; omega
  have d2 : (((za : Int) + zo) == 4294967296) = true := by rw [beq_iff_eq]; omega
  have d3 : ((zd : Int) == ((za : Int) - zc)) = true := by rw [beq_iff_eq]; omega
  clear hL ba bb bu bcc bd bo SR0 NR0
  rw [rounds_succ]
  go_wp2_with fail
  go_ret
  exact ⟨rfl, hF.trans hK9⟩
end Go.Proofs.YtjfadoealhlccaaGreatDoor
