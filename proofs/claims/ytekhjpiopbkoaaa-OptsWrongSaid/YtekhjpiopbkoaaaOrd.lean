/- Record, where nothing is recorded. -/
import Derived.Test.YtekhjpiopbkoaaaOrs
namespace Go.Proofs.Ytekhjpiopbkoaaa
open Go.RowKit
set_option linter.unusedVariables false
set_option maxRecDepth 100000

def RecNo (er : Int) (w : World) (e : Ending) (w' : World) : Prop := e = .returned (.tuple #[OV 0 none 0 0, .int .i64 er]) ∧ Fr [] w w'
theorem right_routes_len {k : Nat} {xs : List UInt8} (h : rtsB k xs = true) : xs.length ≤ 38 := by
  unfold rtsB at h
  split at h
  · unfold rightO at h
    simp at h
    exact h.1
  · cases h
set_option maxHeartbeats 1000000 in
theorem record_arg (k : Nat) (A : Option Addr) (n c : Nat) (xs : List UInt8) (ad : Nat) (w : World) (hl : xs.length = n) (hrd : Rd w A (B8 xs)) (hn : n ≤ 140737488351232) (hk : k < 256) (h : rtsB k xs = false) :
    Calls Try.prog 16 #[OV k A n c, .int .u32 ad] w (RecNo 2 w) := by
  have hF : Fr [] w ((w.alloc (.cells #[.int .u8 k, .slice A n c] 35)).alloc (.cells #[.int .u8 0, .slice none 0 0] 35)) := ((Fr.refl _ _).alloc _).alloc _
  have hb1 : ((w.alloc (.cells #[.int .u8 k, .slice A n c] 35)).alloc (.cells #[.int .u8 0, .slice none 0 0] 35)).heap[w.heap.size + 1]? = some (.cells #[.int .u8 0, .slice none 0 0] 35 (0, 0)) := by
    rw [← World.size_alloc w (.cells #[.int .u8 k, .slice A n c] 35)]; exact heap_alloc_new _ _
  have cR := routes_any k A n c xs _ hl (hrd.fr hF (by simp)) hn hk
  rw [h] at cR
  unfold OV at cR
  have CR := Lib.hid cR
  have HF := Lib.hid hF
  have HB := Lib.hid hb1
  clear cR hF hb1 hl hrd h
  unfold OV
  go_enter Try.func16, Try.ntmps16
  go_wp2_with fail
  refine CR.out.mono ?_
  rintro e w5 ⟨rfl, hF5⟩
  have HB5 := Lib.hid (hF5.blk HB.out (by simp))
  have HF5 := Lib.hid (HF.out.trans hF5)
  clear hF5 CR HB HF
  go_wp2_with (refine wpList_store_row rfl 35 _ _ rfl (w.heap.size + 1) #[.int .u8 0, .slice none 0 0] rfl rfl _ _ HB5.out (by kernel_rfl) rfl (by simp [Value.oneCell']) ?_)
  have hRE : (w5.setRow (w.heap.size + 1) #[.int .u8 0, .slice none 0 0]).heap[w.heap.size + 1]? = some (.cells #[.int .u8 0, .slice none 0 0] 35 (0, 0)) := setRow_heap w5 _ _ _ _ _ HB5.out
  have hFw : Fr [] w (w5.setRow (w.heap.size + 1) #[.int .u8 0, .slice none 0 0]) := HF5.out.trans2 ((Fr.refl [w.heap.size + 1] _).setRow (.inl (by simp)) _) (by simp)
  have x0 := obx0 (k := 0) hRE
  have x1 := obx1 (k := 0) hRE
  refine bodyPost_ret (v := .tuple #[OV 0 none 0 0, .int .i64 2]) (by simp [results, Try.results16, go_sem, OV, x0, x1]) rfl ?_
  exact ⟨rfl, hFw⟩
set_option maxHeartbeats 1000000 in
theorem record_full (k : Nat) (A : Option Addr) (n c : Nat) (xs : List UInt8) (ad : Nat) (w : World) (hl : xs.length = n) (hrd : Rd w A (B8 xs)) (hn1 : 1 ≤ n) (hn : n ≤ 140737488351232) (hk : k < 256) (h : rtsB k xs = true) (hf : bt xs 0 = n + 3) :
    Calls Try.prog 16 #[OV k A n c, .int .u32 ad] w (RecNo 4 w) := by
  have hF : Fr [] w ((w.alloc (.cells #[.int .u8 k, .slice A n c] 35)).alloc (.cells #[.int .u8 0, .slice none 0 0] 35)) := ((Fr.refl _ _).alloc _).alloc _
  have ha0 : (w.alloc (.cells #[.int .u8 k, .slice A n c] 35)).heap[w.heap.size]? = some (.cells #[.int .u8 k, .slice A n c] 35 (0, 0)) := heap_alloc_new w _
  have ha1 := ((Fr.refl [] _).alloc (.cells #[.int .u8 0, .slice none 0 0] 35)).blk ha0 (by simp)
  have hb1 : ((w.alloc (.cells #[.int .u8 k, .slice A n c] 35)).alloc (.cells #[.int .u8 0, .slice none 0 0] 35)).heap[w.heap.size + 1]? = some (.cells #[.int .u8 0, .slice none 0 0] 35 (0, 0)) := by
    rw [← World.size_alloc w (.cells #[.int .u8 k, .slice A n c] 35)]; exact heap_alloc_new _ _
  have cR := routes_any k A n c xs _ hl (hrd.fr hF (by simp)) hn hk
  rw [h] at cR
  unfold OV at cR
  have cP := fun W (hW : Fr [] w W) => pointed_any A n c xs W hl (hrd.fr hW (by simp)) hn1
  have en : ((bt xs 0 : Nat) : Int) - 3 = (n : Int) := by omega
  rw [en] at cP
  have CP := Lib.hid cP
  have CR := Lib.hid cR
  have HF := Lib.hid hF
  have HB := Lib.hid hb1
  have HA := Lib.hid ha1
  clear cR cP hF hb1 ha0 ha1 hl hrd h hf en
  unfold OV
  go_enter Try.func16, Try.ntmps16
  go_wp2_with fail
  refine CR.out.mono ?_
  rintro e w5 ⟨rfl, hF5⟩
  have HB5 := Lib.hid (hF5.blk HB.out (by simp))
  have hA5 := hF5.blk HA.out (by simp)
  have HF5 := Lib.hid (HF.out.trans hF5)
  have q1 : w5.cell? ⟨w.heap.size, 0 + 1, none⟩ = some (.slice A n c) := by simp [World.cell?, hA5]
  clear hF5 CR HB HF HA hA5
  go_wp2_with fail
  refine (CP.out _ HF5.out).mono ?_
  rintro e w6 ⟨rfl, rfl⟩
  go_wp2_with (refine wpList_store_row rfl 35 _ _ rfl (w.heap.size + 1) #[.int .u8 0, .slice none 0 0] rfl rfl _ _ HB5.out (by kernel_rfl) rfl (by simp [Value.oneCell']) ?_)
  have hRE : (w5.setRow (w.heap.size + 1) #[.int .u8 0, .slice none 0 0]).heap[w.heap.size + 1]? = some (.cells #[.int .u8 0, .slice none 0 0] 35 (0, 0)) := setRow_heap w5 _ _ _ _ _ HB5.out
  have hFw : Fr [] w (w5.setRow (w.heap.size + 1) #[.int .u8 0, .slice none 0 0]) := HF5.out.trans2 ((Fr.refl [w.heap.size + 1] _).setRow (.inl (by simp)) _) (by simp)
  have x0 := obx0 (k := 0) hRE
  have x1 := obx1 (k := 0) hRE
  refine bodyPost_ret (v := .tuple #[OV 0 none 0 0, .int .i64 4]) (by simp [results, Try.results16, go_sem, OV, x0, x1]) rfl ?_
  exact ⟨rfl, hFw⟩
end Go.Proofs.Ytekhjpiopbkoaaa
