/- Record's good way. -/
import Derived.Test.YtekhjpiopbkoaaaOrd
import Derived.Test.YtekhjpiopbkoaaaOwr
import Derived.Deep.DeepCutAuto
namespace Go.Proofs.Ytekhjpiopbkoaaa
open Go.RowKit
set_option linter.unusedVariables false
set_option maxRecDepth 100000

/-- copy at the operation: the run that was laid ahead. -/
theorem wpList_cp {P : Program} {ops : Array Oper} {rest : List Oper} {o : Oper} {a : Act} {w : World} {Q : Exit → Act → World → Prop} (hgd : o.guard = none) (s x : Operand) (t1 t2 : TypeId)
    (ho : o.op = .call { callee := .builtin .copy, args := #[s, x], argTypes := #[t1, t2] }) {v xv v' : Value} {w' : World}
    (hr : (Builtin.copy_ #[t1, t2] o.type #[v, xv]).run P w = .ok v' w') (hs : a.eval s = v) (hx : a.eval x = xv)
    (h : wpList P ops Q rest (a.put o.dst v') w') : wpList P ops Q (o :: rest) a w := by
  refine wpList_plain hgd fun K hK => ?_
  unfold Oper.wp execOp
  simp only [ho, resolve, invoke, builtin, Sem.run_bind, Sem.run_pure, Result.andThen_ok, List.map_toArray, List.map_cons, List.map_nil, hs, hx, hr]
  exact hK _ _ h
def b256 (v : Nat) : UInt8 := UInt8.ofNat (v % 256)
theorem b256_val (v : Nat) : (b256 v).toNat = v % 256 := by simp [b256]
/-- An address as bytes. -/
def adB (a : Nat) : List UInt8 := [b256 (a / 16777216), b256 (a / 65536), b256 (a / 256), b256 a]
/-- The Data with one address more that is done. -/
def recD (xs : List UInt8) (p a : Nat) : List UInt8 := splice (xs.set 0 (UInt8.ofNat (bt xs 0 + 4))) p (adB a)
theorem rec_split {xs : List UInt8} {p a : Nat} (h : p + 4 ≤ xs.length) : (recD xs p a).length = xs.length := by
  unfold recD
  rw [length_splice _ _ _ (by simp [adB]; omega)]; simp
def RecYes (k : Nat) (ys : List UInt8) (w : World) (e : Ending) (w' : World) : Prop :=
  ∃ (A : Option Addr) (c : Nat), e = .returned (.tuple #[OV k A ys.length c, .int .i64 0]) ∧ w'.ownsRow w.heap.size 5 1 (.slice A ys.length c) ys.length (B8 ys) ∧ Fr [] w w'
theorem u8_mod' {v : Nat} : IntKind.u8.wrap (v : Int) = ((v % 256 : Nat) : Int) := by rw [u8_mod]; omega
set_option maxHeartbeats 2000000 in
theorem record_go (k : Nat) (A : Option Addr) (n c : Nat) (xs : List UInt8) (ad p : Nat) (w : World) (hl : xs.length = n) (hrd : Rd w A (B8 xs)) (hn1 : 1 ≤ p) (hn : n ≤ 38) (hk : k < 256) (had : ad < 4294967296) (h : rtsB k xs = true) (hf : bt xs 0 = p + 3) (hp : p + 4 ≤ n) :
    Calls Try.prog 16 #[OV k A n c, .int .u32 ad] w (RecYes k (recD xs p ad) w) := by
  have hF : Fr [] w ((w.alloc (.cells #[.int .u8 k, .slice A n c] 35)).alloc (.cells #[.int .u8 0, .slice none 0 0] 35)) := ((Fr.refl _ _).alloc _).alloc _
  have ha0 : (w.alloc (.cells #[.int .u8 k, .slice A n c] 35)).heap[w.heap.size]? = some (.cells #[.int .u8 k, .slice A n c] 35 (0, 0)) := heap_alloc_new w _
  have ha1 := ((Fr.refl [] _).alloc (.cells #[.int .u8 0, .slice none 0 0] 35)).blk ha0 (by simp)
  have hb1 : ((w.alloc (.cells #[.int .u8 k, .slice A n c] 35)).alloc (.cells #[.int .u8 0, .slice none 0 0] 35)).heap[w.heap.size + 1]? = some (.cells #[.int .u8 0, .slice none 0 0] 35 (0, 0)) := by
    rw [← World.size_alloc w (.cells #[.int .u8 k, .slice A n c] 35)]; exact heap_alloc_new _ _
  have hsz0 : ((w.alloc (.cells #[.int .u8 k, .slice A n c] 35)).alloc (.cells #[.int .u8 0, .slice none 0 0] 35)).heap.size = w.heap.size + 2 := by simp
  have cR := routes_any k A n c xs _ hl (hrd.fr hF (by simp)) (by omega) hk
  rw [h] at cR
  unfold OV at cR
  have cP := fun W (hW : Fr [] w W) => pointed_any A n c xs W hl (hrd.fr hW (by simp)) (by omega)
  have en : ((bt xs 0 : Nat) : Int) - 3 = (p : Int) := by omega
  rw [en] at cP
  have cC := fun W (hW : Fr [] w W) => bclone A n c xs W hl (hrd.fr hW (by simp)) (by omega)
  have CP := Lib.hid cP
  have CC := Lib.hid cC
  have CR := Lib.hid cR
  have HF := Lib.hid hF
  have HB := Lib.hid hb1
  have HA := Lib.hid ha1
  have HL := Lib.hid hl
  have HFB := Lib.hid hf
  have HSZ := Lib.hid hsz0
  clear cR cP cC hF hb1 ha0 ha1 hrd h hf en hl hsz0
  unfold OV
  go_enter Try.func16, Try.ntmps16
  go_wp2_with fail
  refine CR.out.mono ?_
  rintro e w5 ⟨rfl, hF5⟩
  have HB5 := Lib.hid (hF5.blk HB.out (by simp))
  have HA5 := Lib.hid (hF5.blk HA.out (by simp))
  have HF5 := Lib.hid (HF.out.trans hF5)
  have hs5 := hF5.size
  rw [HSZ.out] at hs5
  have q1 : w5.cell? ⟨w.heap.size, 0 + 1, none⟩ = some (.slice A n c) := by simp [World.cell?, HA5.out]
  clear hF5 CR HB HF HA
  go_wp2_with fail
  refine (CP.out _ HF5.out).mono ?_
  rintro e w6 ⟨rfl, rfl⟩
  have hpn : ((p : Int) == (n : Int)) = false := by rw [beq_eq_false_iff_ne]; omega
  go_wp2_with fail
  refine (CC.out _ HF5.out).mono ?_
  rintro e w7 ⟨A7, c7, rfl, o7, hF7⟩
  rw [HL.out] at o7 ⊢
  obtain ⟨g, cc, hv, hg, hncc, hcm⟩ := own_some o7 (by omega)
  injection hv with hv1 hv2 hv3
  subst hv1 hv3
  have hfz := own_fz o7 0
  have hsz7 := hF7.size
  have i0 : (0 : Int) < (n : Int) := by omega
  obtain ⟨x0, hx0, ex0⟩ := bt_get (xs := xs) (k := 0) (by rw [HL.out]; omega)
  have hc0 : w7.cell? ⟨g, 0, none⟩ = some (.int .u8 (p + 3 : Nat)) := own_cell o7 (by rw [B8_get, hx0, ← HFB.out, ← ex0]; rfl)
  have o8 := own_set o7 0 (.int .u8 ((p : Int) + 3 + 4))
  rw [B8_set xs 0 (UInt8.ofNat (p + 7)) (by rw [ofNat_toNat (by omega)]; omega)] at o8
  have hF8 : Fr [g] w7 (w7.setCell ⟨g, 0, none⟩ (.int .u8 ((p : Int) + 3 + 4))) := (Fr.refl _ _).setCell (.inl (by simp)) _
  have O8 := Lib.hid o8
  have HF8 := Lib.hid hF8
  have HF7 := Lib.hid hF7
  have HA7 := Lib.hid (hF7.blk HA5.out (by simp))
  have HB7 := Lib.hid (hF7.blk HB5.out (by simp))
  clear o8 hF8 o7 hF7 hx0 ex0 q1
  go_upto_region 8 with (fail)
  have hs8 : (w7.setCell ⟨g, 0, none⟩ (.int .u8 ((p : Int) + 3 + 4))).heap.size = w7.heap.size := by simp [World.setCell]
  generalize w7.setCell ⟨g, 0, none⟩ (.int .u8 ((p : Int) + 3 + 4)) = w8 at O8 HF8 hs8 ⊢
  have hcp : ¬ c7 = p := by omega
  obtain ⟨w9, hr, o9, hF9⟩ := copy_run (P := Try.prog) (t := 27) Try.underlying27 (by kernel_rfl) (w8.alloc (.cells (B8 (adB ad)).toArray 5)) 3 (k := p) (O8.out.alloc _) ⟨w8.heap.size, 0, none⟩ 4 4 (c7 - p) (by rw [B8_length]; rfl) (rd_new w8 (adB ad) 5) (B8_one _) (by omega)
  have hz : (ad : Int) / 16777216 % 256 = (ad : Int) / 16777216 := by omega
  rw [show (B8 (adB ad)).toArray = #[.int .u8 ((ad : Int) / 16777216), .int .u8 ((ad : Int) / 65536 % 256), .int .u8 ((ad : Int) / 256 % 256), .int .u8 ((ad : Int) % 256)] by simp [B8, adB, b256_val, hz]] at hr
  clear hz
  have j0 : (0 : Int) ≤ (p : Int) ∧ (p : Int) ≤ (n : Int) := by omega
  have O9 := Lib.hid o9
  have HF9 := Lib.hid hF9
  clear o9 hF9
  have hF9w : Fr [g] w8 w9 := ((Fr.refl [] w8).alloc _).nil.trans HF9.out
  have HA9 := Lib.hid (hF9w.blk (HF8.out.blk HA7.out (by simp; omega)) (by simp; omega))
  have HB9 := Lib.hid (hF9w.blk (HF8.out.blk HB7.out (by simp; omega)) (by simp; omega))
  have q9 : w9.cell? ⟨w.heap.size, 0, none⟩ = some (.int .u8 k) := by have := HA9.out; simp [World.cell?, this]
  have HF9w := Lib.hid hF9w
  clear HF9 hF9w hs8
  go_wp2_with (first | (with_reducible refine wpList_cp rfl _ _ _ _ rfl hr rfl rfl ?_) | (refine wpList_store_row rfl 35 _ _ rfl (w.heap.size + 1) #[.int .u8 k, .slice (some ⟨g, 0, none⟩) n c7] rfl rfl _ _ HB9.out (by kernel_rfl) rfl (by simp [Value.oneCell']) ?_))
  have hRE : (w9.setRow (w.heap.size + 1) #[.int .u8 k, .slice (some ⟨g, 0, none⟩) n c7]).heap[w.heap.size + 1]? = some (.cells #[.int .u8 k, .slice (some ⟨g, 0, none⟩) n c7] 35 (0, 0)) := setRow_heap w9 _ _ _ _ _ HB9.out
  have hFE : Fr [w.heap.size + 1] w9 (w9.setRow (w.heap.size + 1) #[.int .u8 k, .slice (some ⟨g, 0, none⟩) n c7]) := (Fr.refl _ _).setRow (.inl (by simp)) _
  have hFw : Fr [] w (w9.setRow (w.heap.size + 1) #[.int .u8 k, .slice (some ⟨g, 0, none⟩) n c7]) := (((HF5.out.trans HF7.out).trans2 HF8.out (fun t ht => .inr (by simp at ht; omega))).trans2 HF9w.out (fun t ht => .inr (by simp at ht; omega))).trans2 hFE (fun t ht => .inr (by simp at ht; omega))
  have x0 := obx0 (k := k) hRE
  have x1 := obx1 (k := k) hRE
  have hlen : (recD xs p ad).length = n := by rw [rec_split (by rw [HL.out]; exact hp), HL.out]
  have oE := hFE.own O9.out (fun t ht => by simp [Value.ownBlock] at ht; subst ht; simp; omega)
  refine bodyPost_ret (v := .tuple #[OV k (some ⟨g, 0, none⟩) n c7, .int .i64 0]) (by simp [results, Try.results16, go_sem, OV, x0, x1]) rfl ?_
  refine ⟨some ⟨g, 0, none⟩, c7, by rw [hlen], ?_, hFw⟩
  rw [hlen]
  have eD : B8 (recD xs p ad) = splice (B8 (xs.set 0 (UInt8.ofNat (p + 7)))) p (B8 (adB ad)) := by
    unfold recD splice
    rw [HFB.out, B8_append, B8_append, ← B8_take, ← B8_drop, B8_length]
  rw [eD]
  exact own_ext oE (by omega)
end Go.Proofs.Ytekhjpiopbkoaaa
