/- SpanAlgebra. -/
import Derived.Test.YtjfadoealhlccaaGreatDoorScn
namespace Go.Proofs.YtjfadoealhlccaaGreatDoor
open Go.RowKit
set_option linter.unusedVariables false
set_option maxRecDepth 100000

theorem same_has {l m : List Sp} (rl : RSf 0 l) (rm : RSf 0 m) (h : ∀ n, hasS l n ↔ hasS m n) : l = m := rsf_uniq rl rm h
theorem sb_lt {l : List Sp} (h : SB l) {n : Nat} (hn : hasS l n) : n < 4294967296 := by
  obtain ⟨x, hx, h1, h2⟩ := hn
  have := (h x hx).2
  omega
/-- The laws of the algebra. -/
theorem alg_laws {a b u c d x y z w v k : List Sp} (ra : RSf 0 a) (sa : SB a) (rb : RSf 0 b) (sb : SB b) (hu : Comb (fun p q => p || q) a b u) (hc : Comb (fun p q => p && q) a b c) (hd : Comb (fun p q => p && !q) a b d)
    (hx : Comb (fun p q => p && !q) [(0, 4294967295)] a x) (hy : Comb (fun p q => p && !q) [(0, 4294967295)] b y) (hz : Comb (fun p q => p && !q) [(0, 4294967295)] u z) (hw : Comb (fun p q => p && q) x y w) (hv : Comb (fun p q => p && q) a y v) (hk : Comb (fun p q => p && !q) [(0, 4294967295)] x k) :
    z = w ∧ v = d ∧ k = a ∧ (d.length = 0 ↔ u = b) ∧ ∀ n, n < 4294967296 → decide (hasS u n) = (decide (hasS a n) || decide (hasS b n)) ∧ decide (hasS c n) = (decide (hasS a n) && decide (hasS b n)) ∧ decide (hasS d n) = (decide (hasS a n) && !decide (hasS b n)) ∧ decide (hasS x n) = !decide (hasS a n) := by
  have eu := hu.has
  have ec := hc.has
  have ed := hd.has
  have ex := others_has hx
  have ey := others_has hy
  have ez := others_has hz
  have ew := hw.has
  have ev := hv.has
  have ek := others_has hk
  simp only [tkS, Bool.or_eq_true, Bool.and_eq_true, decide_eq_true_eq, Bool.not_eq_true', decide_eq_false_iff_not] at eu ec ed ew ev
  have la : ∀ n, hasS a n → n < 4294967296 := fun n h => sb_lt sa h
  have lb : ∀ n, hasS b n → n < 4294967296 := fun n h => sb_lt sb h
  refine ⟨same_has hz.rs hw.rs fun n => ?_, same_has hv.rs hd.rs fun n => ?_, same_has hk.rs ra fun n => ?_, ?_, fun n hn => ⟨?_, ?_, ?_, ?_⟩⟩
  · rw [ez, ew, ex, ey, eu]
    constructor
    · rintro ⟨h1, h2⟩
      exact ⟨h1, ⟨h1, fun h => h2 ⟨h1, .inl h⟩⟩, ⟨h1, fun h => h2 ⟨h1, .inr h⟩⟩⟩
    · rintro ⟨h1, ⟨_, h2⟩, ⟨_, h3⟩⟩
      exact ⟨h1, fun ⟨_, h⟩ => h.elim h2 h3⟩
  · rw [ev, ed, ey]
    constructor
    · rintro ⟨h1, h2, _, h3⟩; exact ⟨h1, h2, h3⟩
    · rintro ⟨h1, h2, h3⟩; exact ⟨h1, h2, h1, h3⟩
  · rw [ek, ex]
    constructor
    · rintro ⟨h1, h2⟩
      by_cases h : hasS a n
      · exact h
      · exact absurd ⟨h1, h⟩ h2
    · intro h; exact ⟨la n h, fun ⟨_, h2⟩ => h2 h⟩
  · constructor
    · intro h0
      have hd0 : d = [] := List.eq_nil_of_length_eq_zero h0
      refine same_has hu.rs rb fun n => ?_
      rw [eu]
      constructor
      · rintro ⟨h1, h2 | h2⟩
        · by_cases h : hasS b n
          · exact h
          · have := (ed n).2 ⟨h1, h2, h⟩
            rw [hd0] at this; exact absurd this (hasS_nil n)
        · exact h2
      · intro h; exact ⟨lb n h, .inr h⟩
    · intro h
      have : d = [] := same_has hd.rs (m := []) trivial fun n => by
        rw [ed]
        refine ⟨fun ⟨h1, h2, h3⟩ => ?_, fun h => absurd h (hasS_nil n)⟩
        have := (eu n).2 ⟨h1, .inl h2⟩
        rw [h] at this
        exact absurd this h3
      rw [this]; rfl
  · rw [Bool.eq_iff_iff]; simp only [decide_eq_true_eq, Bool.or_eq_true]; rw [eu]; exact ⟨fun h => h.2, fun h => ⟨hn, h⟩⟩
  · rw [Bool.eq_iff_iff]; simp only [decide_eq_true_eq, Bool.and_eq_true]; rw [ec]; exact ⟨fun h => h.2, fun h => ⟨hn, h⟩⟩
  · rw [Bool.eq_iff_iff]; simp only [decide_eq_true_eq, Bool.and_eq_true, Bool.not_eq_true', decide_eq_false_iff_not]; rw [ed]; exact ⟨fun h => h.2, fun h => ⟨hn, h⟩⟩
  · rw [Bool.eq_iff_iff]; simp only [decide_eq_true_eq, Bool.not_eq_true', decide_eq_false_iff_not]; rw [ex]; exact ⟨fun h => h.2, fun h => ⟨hn, h⟩⟩

/-- Numbers as cells. -/
def U4 (ns : List Nat) : List Value := ns.map fun x : Nat => Value.int .u32 (x : Int)
theorem U4_get (ns : List Nat) (j : Nat) : (U4 ns)[j]? = ns[j]?.map fun x : Nat => Value.int .u32 (x : Int) := by simp [U4]
theorem U4_length (ns : List Nat) : (U4 ns).length = ns.length := by simp [U4]
theorem U4_app (a b : List Nat) : U4 (a ++ b) = U4 a ++ U4 b := by simp [U4]
theorem U4_one (ns : List Nat) : ∀ u ∈ U4 ns, u.oneCell' = true := by
  intro u hu
  simp only [U4, List.mem_map] at hu
  obtain ⟨x, _, rfl⟩ := hu
  rfl
theorem info32 : (Tryz.prog.info? 37).map (fun i => (i.zero, i.size, i.bytes)) = some (some (.int .u32 0), 1, 4) := by kernel_rfl
theorem el32 : El Tryz.prog 23 37 1 4 := .of (z := .int .u32 0) Tryz.underlying23 info32 rfl (by decide)
theorem rdU {w : World} {A : Option Addr} {l : List Nat} {k x : Nat} (h : Rd w A (U4 l)) (hx : l[k]? = some x) : ∃ b o, A = some ⟨b, o, none⟩ ∧ w.cell? ⟨b, o + k, none⟩ = some (.int .u32 x) := rdv h (by rw [U4_get, hx]; rfl)
/-- Numbers that came in. -/
structure ArgU (w : World) (A : Option Addr) (n c : Nat) (l : List Nat) : Prop where
  len : l.length = n
  b : ∀ x ∈ l, x < 4294967296
  rd : Rd w A (U4 l)
  nb : n ≤ c
  cb : c ≤ 9223372036854775807
  nil : A = none → c = 0
theorem ArgU.fr {w w' : World} {A : Option Addr} {n c : Nat} {l : List Nat} (h : ArgU w A n c l) (hF : Fr [] w w') : ArgU w' A n c l := ⟨h.len, h.b, h.rd.fr hF (by simp), h.nb, h.cb, h.nil⟩
theorem own_rdU {w : World} {A : Option Addr} {base : Nat} {e : TypeId} {n c : Nat} {L : List Nat} (h : w.ownsRow base e 1 (.slice A n c) n (U4 L)) : Rd w A (U4 L) := Rd.own h

/-- The slices in block g, and that the row v lies elsewhere. -/
def ApU (w : World) (v : Value) (g : Nat) (vs : List Value) : Prop := (∀ k, v.ownBlock = some k → k ≠ g) ∧ SR6 w g vs
theorem apu_step {w w1 w2 : World} {v v' : Value} {g : Nat} {vs : List Value} (h : ApU w v g vs) (hF : Fr [] w w1) (hg : w1.grownBy w2 v.ownBlock) (hat : v'.ownBlock = v.ownBlock ∨ v'.ownBlock = some w1.heap.size) (hv : vs ≠ [] := by simp) : ApU w2 v' g vs := by
  have h1 := h.2.fr hF (by simp)
  have hlt : g < w1.heap.size := by
    cases vs with
    | nil => exact absurd rfl hv
    | cons x r => exact World.block_lt_of_cell? w1 ⟨g, 0, none⟩ (h1 0 x rfl)
  refine ⟨fun k hk => ?_, h1.fr (fr_grown hg) (fun hm => ?_)⟩
  · rcases hat with e | e
    · exact h.1 k (e ▸ hk)
    · rw [e] at hk; injection hk with hk; omega
  · exact h.1 g (by simpa using hm) rfl
set_option maxHeartbeats 16000000 in
theorem salg_any (A : Option Addr) (n c : Nat) (l : List (Nat × Nat × Bool)) (A' : Option Addr) (n' c' : Nat) (l' : List (Nat × Nat × Bool)) (A2 : Option Addr) (n2 c2 : Nat) (l2 : List Nat) (w : World) (hV : VV w) (hq : ArgQ w A n c l) (hq' : ArgQ w A' n' c' l') (hu0 : ArgU w A2 n2 c2 l2) :
    Calls Tryz.prog 3 #[.slice A n c, .slice A' n' c', .slice A2 n2 c2] w fun e w' => e = .returned (.bool true) ∧ Fr [] w w' := by
  have HQ := Lib.hid hq
  have HQ' := Lib.hid hq'
  have HU := Lib.hid hu0
  have hn2c := hu0.nb
  have hc2 := hu0.cb
  clear hq hq' hu0
  go_enter Tryz.func3, Tryz.ntmps3
  go_wp2_with fail
  refine (awake_any w hV).mono ?_
  rintro e w1 ⟨rfl, hF⟩
  clear hV
  go_wp2_with fail
  refine (made_any A n c l w1 (HQ.out.fr hF)).mono ?_
  rintro e w2 ⟨a, rfl, hRa, hna, hSa⟩
  replace hF := hF.trans hSa.fr
  have oa := hSa.ok
  clear hSa HQ
  go_wp2_with fail
  refine (made_any A' n' c' l' w2 (HQ'.out.fr hF)).mono ?_
  rintro e w3 ⟨b, rfl, hRb, hnb, hSb⟩
  replace hF := hF.trans hSb.fr
  have ob := hSb.ok
  replace oa := oa.fr hSb.fr
  clear hSb HQ'
  have la := oa.len
  have lb := ob.len
  have e2 := err2 (s := a) (t := b) (by omega) hRa (by omega) hRb
  go_wp2_with fail
  refine (union_yes a b e2 w3 oa ob).mono ?_
  rintro e w4 ⟨u, rfl, hCu, hnu, hSu⟩
  replace hF := hF.trans hSu.fr
  have ou := hSu.ok
  replace oa := oa.fr hSu.fr
  replace ob := ob.fr hSu.fr
  have lu := ou.len
  have HCu := Lib.hid hCu
  have hmu : u.n ≤ 161 := by (try simp only [List.length_cons, List.length_nil] at hnu); omega
  clear hCu hnu hSu
  go_wp2_with fail
  refine (common_yes a b e2 w4 oa ob).mono ?_
  rintro e w5 ⟨c, rfl, hCc, hnc, hSc⟩
  replace hF := hF.trans hSc.fr
  have oc := hSc.ok
  replace oa := oa.fr hSc.fr
  replace ob := ob.fr hSc.fr
  replace ou := ou.fr hSc.fr
  have lc := oc.len
  have HCc := Lib.hid hCc
  have hmc : c.n ≤ 161 := by (try simp only [List.length_cons, List.length_nil] at hnc); omega
  clear hCc hnc hSc
  go_wp2_with fail
  refine (without_yes a b e2 w5 oa ob).mono ?_
  rintro e w6 ⟨d, rfl, hCd, hnd, hSd⟩
  replace hF := hF.trans hSd.fr
  have od := hSd.ok
  replace oa := oa.fr hSd.fr
  replace ob := ob.fr hSd.fr
  replace ou := ou.fr hSd.fr
  replace oc := oc.fr hSd.fr
  have ld := od.len
  have HCd := Lib.hid hCd
  have hmd : d.n ≤ 161 := by (try simp only [List.length_cons, List.length_nil] at hnd); omega
  clear hCd hnd hSd
  go_wp2_with fail
  refine (others_yes a (err1 (by omega) hRa) w6 oa).mono ?_
  rintro e w7 ⟨x, rfl, hCx, hnx, hSx⟩
  replace hF := hF.trans hSx.fr
  have ox := hSx.ok
  replace oa := oa.fr hSx.fr
  replace ob := ob.fr hSx.fr
  replace ou := ou.fr hSx.fr
  replace oc := oc.fr hSx.fr
  replace od := od.fr hSx.fr
  have lx := ox.len
  have HCx := Lib.hid hCx
  have hmx : x.n ≤ 83 := by (try simp only [List.length_cons, List.length_nil] at hnx); omega
  clear hCx hnx hSx
  go_wp2_with fail
  refine (others_yes b (err1 (by omega) hRb) w7 ob).mono ?_
  rintro e w8 ⟨y, rfl, hCy, hny, hSy⟩
  replace hF := hF.trans hSy.fr
  have oy := hSy.ok
  replace oa := oa.fr hSy.fr
  replace ob := ob.fr hSy.fr
  replace ou := ou.fr hSy.fr
  replace oc := oc.fr hSy.fr
  replace od := od.fr hSy.fr
  replace ox := ox.fr hSy.fr
  have ly := oy.len
  have HCy := Lib.hid hCy
  have hmy : y.n ≤ 83 := by (try simp only [List.length_cons, List.length_nil] at hny); omega
  clear hCy hny hSy
  go_wp2_with fail
  refine (others_yes u (err1 (by omega) HCu.out.rs) w8 ou).mono ?_
  rintro e w9 ⟨z, rfl, hCz, hnz, hSz⟩
  replace hF := hF.trans hSz.fr
  have oz := hSz.ok
  replace oa := oa.fr hSz.fr
  replace ob := ob.fr hSz.fr
  replace ou := ou.fr hSz.fr
  replace oc := oc.fr hSz.fr
  replace od := od.fr hSz.fr
  replace ox := ox.fr hSz.fr
  replace oy := oy.fr hSz.fr
  have lz := oz.len
  have HCz := Lib.hid hCz
  have hmz : z.n ≤ 325 := by (try simp only [List.length_cons, List.length_nil] at hnz); omega
  clear hCz hnz hSz
  go_wp2_with fail
  refine (common_yes x y (err2 (by omega) HCx.out.rs (by omega) HCy.out.rs) w9 ox oy).mono ?_
  rintro e w10 ⟨t, rfl, hCt, hnt, hSt⟩
  replace hF := hF.trans hSt.fr
  have ot := hSt.ok
  replace oa := oa.fr hSt.fr
  replace ob := ob.fr hSt.fr
  replace ou := ou.fr hSt.fr
  replace oc := oc.fr hSt.fr
  replace od := od.fr hSt.fr
  replace ox := ox.fr hSt.fr
  replace oy := oy.fr hSt.fr
  replace oz := oz.fr hSt.fr
  have lt := ot.len
  have HCt := Lib.hid hCt
  have hmt : t.n ≤ 333 := by (try simp only [List.length_cons, List.length_nil] at hnt); omega
  clear hCt hnt hSt
  go_wp2_with fail
  refine (common_yes a y (err2 (by omega) hRa (by omega) HCy.out.rs) w10 oa oy).mono ?_
  rintro e w11 ⟨v, rfl, hCv, hnv, hSv⟩
  replace hF := hF.trans hSv.fr
  have ov := hSv.ok
  replace oa := oa.fr hSv.fr
  replace ob := ob.fr hSv.fr
  replace ou := ou.fr hSv.fr
  replace oc := oc.fr hSv.fr
  replace od := od.fr hSv.fr
  replace ox := ox.fr hSv.fr
  replace oy := oy.fr hSv.fr
  replace oz := oz.fr hSv.fr
  replace ot := ot.fr hSv.fr
  have lv := ov.len
  have HCv := Lib.hid hCv
  have hmv : v.n ≤ 247 := by (try simp only [List.length_cons, List.length_nil] at hnv); omega
  clear hCv hnv hSv
  go_wp2_with fail
  refine (others_yes x (err1 (by omega) HCx.out.rs) w11 ox).mono ?_
  rintro e w12 ⟨k, rfl, hCk, hnk, hSk⟩
  replace hF := hF.trans hSk.fr
  have ok := hSk.ok
  replace oa := oa.fr hSk.fr
  replace ob := ob.fr hSk.fr
  replace ou := ou.fr hSk.fr
  replace oc := oc.fr hSk.fr
  replace od := od.fr hSk.fr
  replace ox := ox.fr hSk.fr
  replace oy := oy.fr hSk.fr
  replace oz := oz.fr hSk.fr
  replace ot := ot.fr hSk.fr
  replace ov := ov.fr hSk.fr
  have lk := ok.len
  have HCk := Lib.hid hCk
  have hmk : k.n ≤ 169 := by (try simp only [List.length_cons, List.length_nil] at hnk); omega
  clear hCk hnk hSk
  go_wp2_with fail
  refine (within_yes a b e2 w12 oa ob).mono ?_
  rintro e w13 ⟨⟨d', hCd', rfl⟩, hFw⟩
  have hdd : d' = d.l := comb_uniq hCd' HCd.out
  subst hdd
  replace hF := hF.trans hFw
  replace oa := oa.fr hFw
  replace ob := ob.fr hFw
  replace ou := ou.fr hFw
  replace oc := oc.fr hFw
  replace od := od.fr hFw
  replace ox := ox.fr hFw
  replace oy := oy.fr hFw
  replace oz := oz.fr hFw
  replace ot := ot.fr hFw
  replace ov := ov.fr hFw
  replace ok := ok.fr hFw
  obtain ⟨L1, L2, L3, L4, L5⟩ := alg_laws hRa oa.sb hRb ob.sb HCu.out HCc.out HCd.out HCx.out HCy.out HCz.out HCt.out HCv.out HCk.out
  have M1 := fun W (hW : Fr [] w13 W) => same_any z t W (oz.fr hW) (ot.fr hW)
  have M2 := fun W (hW : Fr [] w13 W) => same_any v d W (ov.fr hW) (od.fr hW)
  have M3 := fun W (hW : Fr [] w13 W) => same_any k a W (ok.fr hW) (oa.fr hW)
  have M4 := fun W (hW : Fr [] w13 W) => same_any u b W (ou.fr hW) (ob.fr hW)
  rw [decide_eq_true L1] at M1
  rw [decide_eq_true L2] at M2
  rw [decide_eq_true L3] at M3
  obtain ⟨q, hq⟩ : ∃ q, q = decide (d.l.length = 0) := ⟨_, rfl⟩
  have hq4 : decide (u.l = b.l) = q := by rw [hq, decide_eq_decide]; exact L4.symm
  rw [hq4] at M4
  have dz : ((d.n : Int) == 0) = q := by
    rw [hq, ld]
    by_cases h : d.n = 0
    · rw [h]; rfl
    · rw [decide_eq_false h, beq_eq_false_iff_ne]; omega
  rw [← hq]
  have LAW := Lib.hid L5
  have R1 := Lib.hid M1
  have R2 := Lib.hid M2
  have R3 := Lib.hid M3
  have R4 := Lib.hid M4
  have HFw := Fr.refl [] w13
  have Tu := Lib.hid (fun W (hW : Fr [] w13 W) => rightS_any u.A u.n u.c u.l W ou.len ou.sb (ou.rd.fr hW (by simp)) (by omega))
  have dru : decide (RSf 0 u.l) = true := decide_eq_true HCu.out.rs
  rw [dru] at Tu
  have Tc := Lib.hid (fun W (hW : Fr [] w13 W) => rightS_any c.A c.n c.c c.l W oc.len oc.sb (oc.rd.fr hW (by simp)) (by omega))
  have drc : decide (RSf 0 c.l) = true := decide_eq_true HCc.out.rs
  rw [drc] at Tc
  have Td := Lib.hid (fun W (hW : Fr [] w13 W) => rightS_any d.A d.n d.c d.l W od.len od.sb (od.rd.fr hW (by simp)) (by omega))
  have drd : decide (RSf 0 d.l) = true := decide_eq_true HCd.out.rs
  rw [drd] at Td
  have Tx := Lib.hid (fun W (hW : Fr [] w13 W) => rightS_any x.A x.n x.c x.l W ox.len ox.sb (ox.rd.fr hW (by simp)) (by omega))
  have drx : decide (RSf 0 x.l) = true := decide_eq_true HCx.out.rs
  rw [drx] at Tx
  have Ty := Lib.hid (fun W (hW : Fr [] w13 W) => rightS_any y.A y.n y.c y.l W oy.len oy.sb (oy.rd.fr hW (by simp)) (by omega))
  have dry : decide (RSf 0 y.l) = true := decide_eq_true HCy.out.rs
  rw [dry] at Ty
  have Ka := Lib.hid (fun m W (hW : Fr [] w13 W) => hasS_any a m W (oa.fr hW))
  have Kb := Lib.hid (fun m W (hW : Fr [] w13 W) => hasS_any b m W (ob.fr hW))
  have Ku := Lib.hid (fun m W (hW : Fr [] w13 W) => hasS_any u m W (ou.fr hW))
  have Kc := Lib.hid (fun m W (hW : Fr [] w13 W) => hasS_any c m W (oc.fr hW))
  have Kd := Lib.hid (fun m W (hW : Fr [] w13 W) => hasS_any d m W (od.fr hW))
  have Kx := Lib.hid (fun m W (hW : Fr [] w13 W) => hasS_any x m W (ox.fr hW))
  have OA := Lib.hid oa
  have OB := Lib.hid ob
  have HU13 := Lib.hid (HU.out.fr hF)
  clear hCd' hFw L1 L2 L3 L4 L5 M1 M2 M3 M4 hq hq4 hRa hRb e2 HU oa ob ou oc od ox oy oz ot ov ok HCu HCc HCd HCx HCy HCz HCt HCv HCk hmu hmc hmd hmx hmy hmz hmt hmv hmk lu lc lx ly lz lt lv lk ld dru drc drd drx dry
  obtain ⟨aA, an, ac, al⟩ := a
  obtain ⟨bA, bn, bc, bl⟩ := b
  obtain ⟨uA, un, uc, ul⟩ := u
  obtain ⟨cA, cn, cc, cl⟩ := c
  obtain ⟨dA, dn, dc, dl⟩ := d
  obtain ⟨xA, xn, xc, xl⟩ := x
  obtain ⟨yA, yn, yc, yl⟩ := y
  obtain ⟨zA, zn, zc, zl⟩ := z
  obtain ⟨tA, tn, tc, tl⟩ := t
  obtain ⟨vA, vn, vc, vl⟩ := v
  obtain ⟨kA, kn, kc, kl⟩ := k
  simp only at *
  go_wp2_with fail
  refine (R1.out _ HFw).mono ?_
  rintro e y0 ⟨rfl, G0⟩
  replace HFw := HFw.trans G0
  clear G0
  go_wp2_with fail
  refine (R2.out _ HFw).mono ?_
  rintro e y1 ⟨rfl, G1⟩
  replace HFw := HFw.trans G1
  clear G1
  go_wp2_with fail
  refine (R3.out _ HFw).mono ?_
  rintro e y2 ⟨rfl, G2⟩
  replace HFw := HFw.trans G2
  clear G2
  trace "A"
  cases q
  all_goals
    go_wp2_with fail
    refine (R4.out _ HFw).mono ?_
    rintro e y3 ⟨rfl, G3⟩
    replace HFw := HFw.trans G3
    clear G3 R1 R2 R3 R4 dz
    have SR0 : Hid (SR6 (y3.alloc (.cells #[.slice uA un uc, .slice cA cn cc, .slice dA dn dc, .slice xA xn xc, .slice yA yn yc] 26)) y3.heap.size [.slice uA un uc, .slice cA cn cc, .slice dA dn dc, .slice xA xn xc, .slice yA yn yc]) := fun j v hj => new_cell y3 #[.slice uA un uc, .slice cA cn cc, .slice dA dn dc, .slice xA xn xc, .slice yA yn yc] 26 j v (by simpa using hj)
    replace HFw := HFw.alloc (.cells #[.slice uA un uc, .slice cA cn cc, .slice dA dn dc, .slice xA xn xc, .slice yA yn yc] 26)
    go_wp2_with fail
    refine wp_loop_rounds 6 ?_
    have sc0 := SR0.out 0 _ rfl
    rw [rounds_succ]
    go_wp2_with fail
    refine (Tu.out _ HFw).mono ?_
    rintro e r0 ⟨rfl, G0⟩
    clear sc0
    replace HFw := HFw.trans G0
    replace SR0 := Lib.hid (SR0.out.fr G0 (by simp))
    clear G0
    go_wp2_with fail
    have sc1 := SR0.out 1 _ rfl
    rw [rounds_succ]
    go_wp2_with fail
    refine (Tc.out _ HFw).mono ?_
    rintro e r1 ⟨rfl, G1⟩
    clear sc1
    replace HFw := HFw.trans G1
    replace SR0 := Lib.hid (SR0.out.fr G1 (by simp))
    clear G1
    go_wp2_with fail
    have sc2 := SR0.out 2 _ rfl
    rw [rounds_succ]
    go_wp2_with fail
    refine (Td.out _ HFw).mono ?_
    rintro e r2 ⟨rfl, G2⟩
    clear sc2
    replace HFw := HFw.trans G2
    replace SR0 := Lib.hid (SR0.out.fr G2 (by simp))
    clear G2
    go_wp2_with fail
    have sc3 := SR0.out 3 _ rfl
    rw [rounds_succ]
    go_wp2_with fail
    refine (Tx.out _ HFw).mono ?_
    rintro e r3 ⟨rfl, G3⟩
    clear sc3
    replace HFw := HFw.trans G3
    replace SR0 := Lib.hid (SR0.out.fr G3 (by simp))
    clear G3
    go_wp2_with fail
    have sc4 := SR0.out 4 _ rfl
    rw [rounds_succ]
    go_wp2_with fail
    refine (Ty.out _ HFw).mono ?_
    rintro e r4 ⟨rfl, G4⟩
    clear sc4
    replace HFw := HFw.trans G4
    replace SR0 := Lib.hid (SR0.out.fr G4 (by simp))
    clear G4
    go_wp2_with fail
    clear SR0 Tu Tc Td Tx Ty
    obtain ⟨m2, hm2⟩ : ∃ m2, m2 = min n2 100 := ⟨_, rfl⟩
    have hm2a : m2 ≤ n2 := by omega
    have hm2b : m2 ≤ 100 := by omega
    have hmi : min (n2 : Int) 100 = (m2 : Int) := by omega
    have hmc2 : (m2 : Int) ≤ (c2 : Int) := by omega
    have hmc3 : (0 : Int) ≤ (m2 : Int) := by omega
    have HUr := HU13.out.fr HFw
    have hFl : Fr [] r4 (r4.alloc (.cells #[.int .u32 0, .int .u32 4294967295] 37)) := (Fr.refl _ _).alloc _
    have hsz4 := HFw.size
    obtain ⟨v0, p0, hr0, ho0, hg0, _⟩ := app_run el32 (r4.alloc (.cells #[.int .u32 0, .int .u32 4294967295] 37)) w13.heap.size 23 (.slice (some ⟨r4.heap.size, 0, none⟩) 2 2) 2 (U4 [0, 4294967295])
      (World.ownsRow_lit (base := w13.heap.size) (e := 37) (size := 1) r4 #[.int .u32 0, .int .u32 4294967295] 2 hsz4 (by decide) rfl) A2 m2 c2 (U4 (l2.take m2)) (by rw [U4_length, List.length_take, HUr.len]; omega)
      (by have h := (HUr.rd.fr hFl (by simp)).take m2; unfold U4 at h ⊢; rw [← List.map_take] at h; exact h) (U4_one _) HUr.nil (by unfold maxLen; omega) (by omega) (by simp; omega)
    have hFp : Fr [] w13 p0 := (HFw.alloc _).grown hg0 (fun g hgg => .inr (by simp only [Value.ownBlock] at hgg; injection hgg with hgg; omega))
    have hlen0 : (l2.take m2).length = m2 := by rw [List.length_take, HUr.len]; omega
    rw [← U4_app] at ho0
    have HPL : Hid (∀ x ∈ ([0, 4294967295] ++ l2.take m2 : List Nat), x < 4294967296) := by
      show ∀ _, _
      intro x hx
      rcases List.mem_append.1 hx with h | h
      · simp only [List.mem_cons, List.not_mem_nil, or_false] at h; omega
      · exact HUr.b x (List.mem_of_mem_take h)
    have HPN : Hid (([0, 4294967295] ++ l2.take m2 : List Nat).length ≤ 102) := by show _ ≤ _; simp only [List.length_append, List.length_cons, List.length_nil, hlen0]; omega
    replace ho0 : p0.ownsRow w13.heap.size 37 1 v0 ([0, 4294967295] ++ l2.take m2 : List Nat).length (U4 ([0, 4294967295] ++ l2.take m2)) := by
      rw [show ([0, 4294967295] ++ l2.take m2 : List Nat).length = 2 + m2 by simp only [List.length_append, List.length_cons, List.length_nil, hlen0]]; exact ho0
    have hFq : Fr [] p0 (p0.alloc (.cells #[.slice aA an ac, .slice bA bn bc] 25)) := (Fr.refl _ _).alloc _
    have HPO := Lib.hid (hFq.own ho0 (by simp))
    have hv0 : ∀ k, v0.ownBlock = some k → k ≠ p0.heap.size := fun k hk => by have := (ho0.lt k hk).2; omega
    have SR2 : Hid (ApU (p0.alloc (.cells #[.slice aA an ac, .slice bA bn bc] 25)) v0 p0.heap.size [.slice aA an ac, .slice bA bn bc]) := And.intro hv0 fun j v hj => new_cell p0 #[.slice aA an ac, .slice bA bn bc] 25 j v (by simpa using hj)
    clear hm2 hsz4 hg0 ho0 HUr hFl hlen0 hv0
    rw [rounds_succ]
    replace HFw := hFp.trans hFq
    clear hFp hFq
    go_wp2_with (at_builtin; refine wpList_app rfl _ _ _ rfl hr0 rfl rfl ?_)
    refine wp_loop_rounds 3 ?_
    have hca := SR2.out.2 0 _ rfl
    rw [rounds_succ]
    go_wp2_with fail
    clear hca
    go_loopw [26, 181] (fun v i wr => ∃ (k : Nat) (L : List Nat), k ≤ an ∧ i = .int .i64 k ∧ (∀ x ∈ L, x < 4294967296) ∧ L.length ≤ 102 + 4 * k ∧ wr.ownsRow w13.heap.size 37 1 v L.length (U4 L) ∧ ApU wr v p0.heap.size [.slice aA an ac, .slice bA bn bc] ∧ Fr [] w13 wr) (fun _ i _ => an - (intOf i).toNat)
    case atStart => exact ⟨0, _, Nat.zero_le _, rfl, HPL.out, HPN.out, HPO.out, SR2.out, HFw⟩
    case round =>
      clear HPL HPN HPO SR2 HFw
      obtain ⟨k, L, hk, rfl, hLb, hLn, hLo, hSR, hFr⟩ := hrel
      have SR2 := Lib.hid hSR
      have HPO := Lib.hid hLo
      have HPL := Lib.hid hLb
      obtain ⟨vA, vc, rfl, _, _, _⟩ := own_slice hLo
      clear hSR hLb hLo
      by_cases hlt : k < an
      · have osW := OA.out.fr hFr
        obtain ⟨⟨x1, x2⟩, hx⟩ : ∃ x, al[k]? = some x := ⟨_, List.getElem?_eq_getElem (by have := osW.len; simp only at this; omega)⟩
        have hb := osW.sb.get hx
        obtain ⟨bb, oo, hAd, p1, p2⟩ := rdS osW.rd hx
        simp only at hAd p1 p2 hb
        subst hAd
        obtain ⟨s1, hs1, hs1l⟩ : ∃ s1 : Nat, IntKind.u32.wrap ((x1 : Int) - 1) = (s1 : Int) ∧ s1 < 4294967296 := ⟨(((x1 : Int) - 1) % 4294967296).toNat, by rw [IntKind.wrap_u32]; omega, by omega⟩
        obtain ⟨s2, hs2, hs2l⟩ : ∃ s2 : Nat, IntKind.u32.wrap ((x2 : Int) + 1) = (s2 : Int) ∧ s2 < 4294967296 := ⟨(((x2 : Int) + 1) % 4294967296).toNat, by rw [IntKind.wrap_u32]; omega, by omega⟩
        have hi0 : (0 : Int) ≤ (k : Int) ∧ (k : Int) < an := by omega
        have hszr := hFr.size
        have hbx : Fr [] wr (wr.alloc (.cells #[.int .u32 x1, .int .u32 x2] 40)) := (Fr.refl _ _).alloc _
        obtain ⟨v', w3', hr, ho3, hg3, hat⟩ := app_run el32 ((wr.alloc (.cells #[.int .u32 x1, .int .u32 x2] 40)).alloc (.cells #[.int .u32 x1, .int .u32 x2, .int .u32 s1, .int .u32 s2] 37)) w13.heap.size 23 (.slice vA L.length vc) L.length (U4 L) ((hbx.own HPO.out (by simp)).alloc _)
          (some ⟨(wr.alloc (.cells #[.int .u32 x1, .int .u32 x2] 40)).heap.size, 0, none⟩) 4 4 (U4 [x1, x2, s1, s2]) rfl (rd_new2 _ _ _) (U4_one _) (by simp) (by unfold maxLen; omega) (by omega) (by simp; omega)
        rw [World.size_alloc] at hr
        have hF3 : Fr [] w13 w3' := ((hFr.alloc _).alloc _).grown hg3 (fun g hgg => .inr (HPO.out.lt g hgg).1)
        have SR3 := Lib.hid (apu_step SR2.out (((Fr.refl [] _).alloc (.cells #[.int .u32 x1, .int .u32 x2] 40)).alloc (.cells #[.int .u32 x1, .int .u32 x2, .int .u32 s1, .int .u32 s2] 37)) hg3 hat)
        rw [← U4_app] at ho3
        have HO3 := Lib.hid ho3
        have hpx : Hid (∀ x ∈ L ++ [x1, x2, s1, s2], x < 4294967296) := by
          show ∀ _, _
          intro x hx
          rcases List.mem_append.1 hx with h | h
          · exact HPL.out x h
          · simp only [List.mem_cons, List.not_mem_nil, or_false] at h; omega
        clear hx hg3 ho3 hbx osW hat
        go_wp2_with (at_builtin; refine wpList_app rfl _ _ _ rfl hr rfl rfl ?_)
        go_roundw
        case rel => exact ⟨k + 1, L ++ [x1, x2, s1, s2], by omega, by go_num, hpx.out, by simp; omega, by have := HO3.out; rw [List.length_append]; exact this, SR3.out, hF3⟩
        case measure => simp [intOf]; omega
      · obtain rfl : an = k := by omega
        go_wp2_with fail
        rw [rounds_succ]
        have hcb := SR2.out.2 1 _ rfl
        go_wp2_with fail
        clear hcb
        go_loopw [26, 181] (fun v i wr => ∃ (k : Nat) (L : List Nat), k ≤ bn ∧ i = .int .i64 k ∧ (∀ x ∈ L, x < 4294967296) ∧ L.length ≤ 262 + 4 * k ∧ wr.ownsRow w13.heap.size 37 1 v L.length (U4 L) ∧ ApU wr v p0.heap.size [.slice aA an ac, .slice bA bn bc] ∧ Fr [] w13 wr) (fun _ i _ => bn - (intOf i).toNat)
        case atStart => exact ⟨0, _, Nat.zero_le _, rfl, HPL.out, by omega, HPO.out, SR2.out, hFr⟩
        case round =>
          clear HPL HPO SR2 hLn hFr hk
          obtain ⟨k, L, hk, rfl, hLb, hLn, hLo, hSR, hFr⟩ := hrel
          have SR2 := Lib.hid hSR
          have HPO := Lib.hid hLo
          have HPL := Lib.hid hLb
          obtain ⟨vA, vc, rfl, _, _, _⟩ := own_slice hLo
          clear hSR hLb hLo
          by_cases hlt : k < bn
          · have osW := OB.out.fr hFr
            obtain ⟨⟨x1, x2⟩, hx⟩ : ∃ x, bl[k]? = some x := ⟨_, List.getElem?_eq_getElem (by have := osW.len; simp only at this; omega)⟩
            have hb := osW.sb.get hx
            obtain ⟨bb, oo, hAd, p1, p2⟩ := rdS osW.rd hx
            simp only at hAd p1 p2 hb
            subst hAd
            obtain ⟨s1, hs1, hs1l⟩ : ∃ s1 : Nat, IntKind.u32.wrap ((x1 : Int) - 1) = (s1 : Int) ∧ s1 < 4294967296 := ⟨(((x1 : Int) - 1) % 4294967296).toNat, by rw [IntKind.wrap_u32]; omega, by omega⟩
            obtain ⟨s2, hs2, hs2l⟩ : ∃ s2 : Nat, IntKind.u32.wrap ((x2 : Int) + 1) = (s2 : Int) ∧ s2 < 4294967296 := ⟨(((x2 : Int) + 1) % 4294967296).toNat, by rw [IntKind.wrap_u32]; omega, by omega⟩
            have hi0 : (0 : Int) ≤ (k : Int) ∧ (k : Int) < bn := by omega
            have hszr := hFr.size
            have hbx : Fr [] wr (wr.alloc (.cells #[.int .u32 x1, .int .u32 x2] 40)) := (Fr.refl _ _).alloc _
            obtain ⟨v', w3', hr, ho3, hg3, hat⟩ := app_run el32 ((wr.alloc (.cells #[.int .u32 x1, .int .u32 x2] 40)).alloc (.cells #[.int .u32 x1, .int .u32 x2, .int .u32 s1, .int .u32 s2] 37)) w13.heap.size 23 (.slice vA L.length vc) L.length (U4 L) ((hbx.own HPO.out (by simp)).alloc _)
              (some ⟨(wr.alloc (.cells #[.int .u32 x1, .int .u32 x2] 40)).heap.size, 0, none⟩) 4 4 (U4 [x1, x2, s1, s2]) rfl (rd_new2 _ _ _) (U4_one _) (by simp) (by unfold maxLen; omega) (by omega) (by simp; omega)
            rw [World.size_alloc] at hr
            have hF3 : Fr [] w13 w3' := ((hFr.alloc _).alloc _).grown hg3 (fun g hgg => .inr (HPO.out.lt g hgg).1)
            have SR3 := Lib.hid (apu_step SR2.out (((Fr.refl [] _).alloc (.cells #[.int .u32 x1, .int .u32 x2] 40)).alloc (.cells #[.int .u32 x1, .int .u32 x2, .int .u32 s1, .int .u32 s2] 37)) hg3 hat)
            rw [← U4_app] at ho3
            have HO3 := Lib.hid ho3
            have hpx : Hid (∀ x ∈ L ++ [x1, x2, s1, s2], x < 4294967296) := by
              show ∀ _, _
              intro x hx
              rcases List.mem_append.1 hx with h | h
              · exact HPL.out x h
              · simp only [List.mem_cons, List.not_mem_nil, or_false] at h; omega
            clear hx hg3 ho3 hbx osW hat
            go_wp2_with (at_builtin; refine wpList_app rfl _ _ _ rfl hr rfl rfl ?_)
            go_roundw
            case rel => exact ⟨k + 1, L ++ [x1, x2, s1, s2], by omega, by go_num, hpx.out, by simp; omega, by have := HO3.out; rw [List.length_append]; exact this, SR3.out, hF3⟩
            case measure => simp [intOf]; omega
          · obtain rfl : bn = k := by omega
            go_wp2_with fail
            rw [rounds_succ]
            go_wp2_with fail
            have HLN : Hid (L.length ≤ 422) := by show _ ≤ _; omega
            clear SR2 hLn hk OA OB HU13
            go_loopw [202] (fun i wl => ∃ k : Nat, k ≤ L.length ∧ i = .int .i64 k ∧ Fr [] wr wl) (fun i _ => L.length - (intOf i).toNat)
            case atStart => exact ⟨0, Nat.zero_le _, rfl, Fr.refl _ _⟩
            case round =>
              obtain ⟨k, hk, rfl, hFl⟩ := hrel
              have hLn := HLN.out
              by_cases hlt : k < L.length
              · obtain ⟨x, hx⟩ : ∃ x, L[k]? = some x := ⟨_, List.getElem?_eq_getElem hlt⟩
                have hxb := HPL.out x (List.mem_of_getElem? hx)
                obtain ⟨pb_, po, hPA, hpc⟩ := rdU ((own_rdU HPO.out).fr hFl (by simp)) hx
                obtain ⟨E1, E2, E3, E4⟩ := LAW.out x hxb
                have k1 := fun W hW => Ka.out x W hW
                have k2 := fun W hW => Kb.out x W hW
                have k3 := fun W hW => Ku.out x W hW
                have k4 := fun W hW => Kc.out x W hW
                have k5 := fun W hW => Kd.out x W hW
                have k6 := fun W hW => Kx.out x W hW
                try simp only at E1 E2 E3 E4
                rw [E1] at k3
                rw [E2] at k4
                rw [E3] at k5
                rw [E4] at k6
                generalize decide (hasS al x) = pa at k1 k3 k4 k5 k6
                generalize decide (hasS bl x) = pb at k2 k3 k4 k5
                have J1 := Lib.hid k1
                have J2 := Lib.hid k2
                have J3 := Lib.hid k3
                have J4 := Lib.hid k4
                have J5 := Lib.hid k5
                have J6 := Lib.hid k6
                have hi0 : (0 : Int) ≤ (k : Int) ∧ (k : Int) < (L.length : Int) := by omega
                subst hPA
                have HFl := hFr.trans hFl
                clear hx E1 E2 E3 E4 k1 k2 k3 k4 k5 k6
                cases pa <;> cases pb
                all_goals
                  go_wp2_with fail
                  refine (J1.out _ HFl).mono ?_
                  rintro e f1 ⟨rfl, g1⟩
                  replace HFl := HFl.trans g1
                  replace hFl := hFl.trans g1
                  clear g1
                  go_wp2_with fail
                  refine (J2.out _ HFl).mono ?_
                  rintro e f2 ⟨rfl, g1⟩
                  replace HFl := HFl.trans g1
                  replace hFl := hFl.trans g1
                  clear g1
                  go_wp2_with fail
                  refine (J3.out _ HFl).mono ?_
                  rintro e f3 ⟨rfl, g1⟩
                  replace HFl := HFl.trans g1
                  replace hFl := hFl.trans g1
                  clear g1
                  go_wp2_with fail
                  refine (J4.out _ HFl).mono ?_
                  rintro e f4 ⟨rfl, g1⟩
                  replace HFl := HFl.trans g1
                  replace hFl := hFl.trans g1
                  clear g1
                  go_wp2_with fail
                  refine (J5.out _ HFl).mono ?_
                  rintro e f5 ⟨rfl, g1⟩
                  replace HFl := HFl.trans g1
                  replace hFl := hFl.trans g1
                  clear g1
                  go_wp2_with fail
                  refine (J6.out _ HFl).mono ?_
                  rintro e f6 ⟨rfl, g1⟩
                  replace HFl := HFl.trans g1
                  replace hFl := hFl.trans g1
                  clear g1
                  go_wp2_with fail
                  go_roundw
                  case rel => exact ⟨k + 1, by omega, by go_num, hFl⟩
                  case measure => simp [intOf]; omega
              · obtain rfl : k = L.length := by omega
                go_wp2_with fail
                go_ret
                exact ⟨rfl, hF.trans (hFr.trans hFl)⟩
end Go.Proofs.YtjfadoealhlccaaGreatDoor
