/- Unhex: a deferred closure that recovers. -/
import Derived.Test.YtbgikpbhjeanoaaHex
import Derived.Recover
import Derived.Defers
import Derived.RegionCalls
import Derived.StillTailTactics
namespace Go.Proofs.Ytbgikpbhjeanoaa
open Go.RowKit

theorem catch_panicking (p q : Addr) (hpq : p.block ≠ q.block) (x y : Value) (xk : IntKind) (xn : Int) (u : TypeId) (pv : Value) (older : List PanicEntry) (w : World) {A : Option Addr} {n c : Nat} (hx : x = .slice A n c) (hy : y = .int xk xn) (hc : w.cell? p = some x) (hz : w.frozen? p = false) (hc2 : w.cell? q = some y) (hz2 : w.frozen? q = false) :
    CallsD Try.prog 62 #[.pointer (some p), .pointer (some q)] (.panicking ({ v := .iface u pv, recovered := false } :: older)) w fun e u' w' =>
      e = .returned (.tuple #[]) ∧ u' = .panicking ({ v := .iface u pv, recovered := true } :: older) ∧ w' = (w.setCell p (.slice none 0 0)).setCell q (.int .i64 10) := by
  subst hx hy
  have hc3 : (w.setCell p (.slice none 0 0)).cell? q = some (.int xk xn) := by rw [World.cell?_setCell_other _ _ _ _ (by intro e; subst e; exact hpq rfl)]; exact hc2
  have hz3 : (w.setCell p (.slice none 0 0)).frozen? q = false := by simpa using hz2
  refine callsD_of_wpS Try.func62 rfl fun c₀ cs hu => ?_
  apply wpS_seq
  apply wpS_region
  simp [wpOpsS, go_sem, recoverD, hu, Try.ntmps62, Exit.thenS]
  refine wpS_cond (t := true) (by simp [Act.eval, Array.replicate]) ?_
  simp only [if_true]
  apply wpS_region
  simp [wpOpsS, go_sem, hc, hz, hc3, hz3, bodyPostS, results, Try.results62]

theorem catch_idle (p q : Addr) (w : World) :
    CallsD Try.prog 62 #[.pointer (some p), .pointer (some q)] .returning w fun e u' w' => e = .returned (.tuple #[]) ∧ u' = .returning ∧ w' = w := by
  refine callsD_of_wpS Try.func62 rfl fun c₀ cs hu => ?_
  apply wpS_seq
  apply wpS_region
  simp [wpOpsS, go_sem, recoverD, hu, Try.ntmps62, Exit.thenS]
  refine wpS_cond (t := false) (by simp [Act.eval, Array.replicate]) ?_
  simp only [Bool.false_eq_true, if_false]
  refine wpS_of_wp (wp_skip ?_)
  cases c₀
  simp_all [bodyPostS, results, Try.results62]

set_option maxRecDepth 20000 in
set_option maxHeartbeats 400000 in
theorem unhex_long (s : ByteArray) (w : World) (hs : 262144 < s.size) :
    Calls Try.prog 37 #[.string s] w fun e w' => e = .returned (.tuple #[.slice none 0 0, .int .i64 3]) ∧ Fr [] w w' := by
  go_enter Try.func37, Try.ntmps37
  go_wp2
  exact bodyPost_ret (v := .tuple #[.slice none 0 0, .int .i64 3]) (by simp [results, Try.results37, go_sem]) rfl ⟨rfl, ((Fr.refl _ w).alloc _).alloc _⟩

set_option maxRecDepth 20000 in
set_option maxHeartbeats 400000 in
theorem unhex_odd (s : ByteArray) (w : World) (hs : s.size ≤ 262144) (ho : s.size % 2 = 1) :
    Calls Try.prog 37 #[.string s] w fun e w' => e = .returned (.tuple #[.slice none 0 0, .int .i64 10]) ∧ Fr [] w w' := by
  have h1 : (((s.size : Int) % 2) == 0) = false := by rw [beq_eq_false_iff_ne]; omega
  go_enter Try.func37, Try.ntmps37
  go_wp2
  exact bodyPost_ret (v := .tuple #[.slice none 0 0, .int .i64 10]) (by simp [results, Try.results37, go_sem]) rfl ⟨rfl, ((Fr.refl _ w).alloc _).alloc _⟩

/-- A byte of two digits. -/
def pb (a b : UInt8) : UInt8 := UInt8.ofNat (16 * (dg a).toNat + (dg b).toNat)
/-- The first k bytes whose text L is. -/
def decK (L : List UInt8) (k : Nat) : List UInt8 := (List.range k).map fun i => pb (L.getD (2 * i) 0) (L.getD (2 * i + 1) 0)
theorem decK_succ (L : List UInt8) (k : Nat) : decK L (k + 1) = decK L k ++ [pb (L.getD (2 * k) 0) (L.getD (2 * k + 1) 0)] := by simp [decK, List.range_succ]
theorem decK_length (L : List UInt8) (k : Nat) : (decK L k).length = k := by simp [decK]
def AllDig (L : List UInt8) : Prop := ∀ i, i < L.length → 0 ≤ dg (L.getD i 0)

theorem str_get (s : ByteArray) (i : Nat) (h : i < s.size) : s[i]'h = s.data.toList.getD i 0 := by
  have h' : i < s.data.toList.length := by rw [Array.length_toList]; exact h
  simp only [List.getD, List.getElem?_eq_getElem h', Option.getD_some]
  rfl

theorem orpb (a b : UInt8) (ha : 0 ≤ dg a) (hb : 0 ≤ dg b) : bits BinOp.or IntKind.u8 (IntKind.u8.wrap (dg a * 16)) (dg b) = ((pb a b).toNat : Int) := by
  have hla := dg_lt a
  have hlb := dg_lt b
  obtain ⟨x, hx⟩ := Int.eq_ofNat_of_zero_le ha
  obtain ⟨y, hy⟩ := Int.eq_ofNat_of_zero_le hb
  unfold pb
  rw [hx] at ha hla ⊢
  rw [hy] at hb hlb ⊢
  have h1 : IntKind.u8.wrap ((x : Int) * 16) = ((x * 16 : Nat) : Int) := by rw [IntKind.wrap_u8']; omega
  rw [h1, u8_or_nat _ _ (by omega) (by omega), nat_join 4 _ _ (by omega) (by omega)]
  simp only [Int.toNat_natCast, UInt8.toNat_ofNat']
  omega

theorem B8_set (l : List UInt8) (x : UInt8) (r : Nat) (hr : 0 < r) : (B8 (l ++ List.replicate r 0)).set l.length (.int .u8 x.toNat) = B8 ((l ++ [x]) ++ List.replicate (r - 1) 0) := by
  obtain ⟨n, rfl⟩ : ∃ n, r = n + 1 := ⟨r - 1, by omega⟩
  rw [B8_append, B8_append, B8_append, List.set_append_right _ _ (by rw [B8_length]; exact Nat.le_refl _), B8_length, Nat.sub_self, List.replicate_succ]
  simp [B8]

structure UH (w : World) (N m k : Nat) (L : List UInt8) (wr : World) : Prop where
  b0 : wr.heap[N]? = some (.cells #[.slice (some ⟨N + 2, 0, none⟩) m m] 22 (0, 0))
  b1 : wr.heap[N + 1]? = some (.cells #[.int .i64 0] 35 (0, 0))
  own : wr.ownsRow (N + 2) 5 1 (.slice (some ⟨N + 2, 0, none⟩) m m) m (B8 (decK L k ++ List.replicate (m - k) 0))
  fr : Fr [] w wr
  ok : ∀ i, i < 2 * k → 0 ≤ dg (L.getD i 0)

theorem UH.alk {w : World} {N m k : Nat} {L : List UInt8} {wr w' : World} (h : UH w N m k L wr) (e1 : w'.heap = wr.heap) (e2 : w'.os = wr.os) (e3 : w'.tape = wr.tape) (e4 : w'.output = wr.output) : UH w N m k L w' :=
  ⟨by rw [e1]; exact h.b0, by rw [e1]; exact h.b1, own_alk h.own e1, h.fr.alk e1 e2 e3 e4, h.ok⟩

def UnhPost (w : World) (L : List UInt8) (e : Ending) (w' : World) : Prop :=
  ((AllDig L ∧ ∃ u, e = .returned (.tuple #[u, .int .i64 0]) ∧ w'.ownsRow w.heap.size 5 1 u (L.length / 2) (B8 (decK L (L.length / 2)))) ∨
   (¬ AllDig L ∧ e = .returned (.tuple #[.slice none 0 0, .int .i64 10]))) ∧ Fr [] w w'

theorem leaves_congr {P : Program} {fn : Func} {t t' : Array Value} {R : Ending → World → Prop} (h : results fn t = results fn t') : ∀ (ds : List Deferred) (u : FrameMode) (w : World), Leaves P fn t R ds u w → Leaves P fn t' R ds u w
  | [], .returning, w, hl => by unfold Leaves at hl ⊢; rw [← h]; exact hl
  | [], .panicking _, w, hl => hl
  | [], .run, w, hl => hl
  | d :: ds, u, w, hl => by
    unfold Leaves at hl ⊢
    obtain ⟨hu, fv, cap, f, args, h1, h2, h3⟩ := hl
    refine ⟨hu, fv, cap, f, args, h1, h2, h3.mono ?_⟩
    intro e u' w' he
    cases e with
    | returned v => exact leaves_congr h ds _ _ he
    | panicked c => exact leaves_congr h ds _ _ he
    | outgrown => exact he

theorem unhex_results (t : Array Value) (d : Nat) (v : Value) (h2 : d ≠ 2) (h3 : d ≠ 3) : results Try.f37 (t.setIfInBounds d v) = results Try.f37 t := by
  have e2 : (t.setIfInBounds d v)[2]?.getD undef = t[2]?.getD undef := by rw [Array.getElem?_setIfInBounds, if_neg h2]
  have e3 : (t.setIfInBounds d v)[3]?.getD undef = t[3]?.getD undef := by rw [Array.getElem?_setIfInBounds, if_neg h3]
  simp [results, Try.results37, e2, e3]

theorem unhex_put {R : Ending → World → Prop} {a : Act} {d : Nat} {v : Value} {c : List PanicEntry} {w : World} (h2 : d ≠ 2) (h3 : d ≠ 3) (h : bodyPostD Try.prog Try.f37 R (.panic c) (a.put (some d) v) w) : bodyPostD Try.prog Try.f37 R (.panic c) a w :=
  leaves_congr (unhex_results a.tmps d v h2 h3) _ _ _ h

theorem bad_end {w wr : World} {m k : Nat} {L : List UInt8} (hU : UH w w.heap.size m k L wr) (hbad : ¬ AllDig L) (tmps : Array Value) (h2 : tmps.getD 2 undef = .pointer (some ⟨w.heap.size, 0, none⟩)) (h3 : tmps.getD 3 undef = .pointer (some ⟨w.heap.size + 1, 0, none⟩)) :
    Leaves Try.prog Try.f37 tmps (UnhPost w L) [{ target := Target.fn (Fn.func 62) #[Value.pointer (some ⟨w.heap.size, 0, none⟩), Value.pointer (some ⟨w.heap.size + 1, 0, none⟩)], args := #[] }]
      (.panicking [{ v := .iface 35 (.int .i64 10), recovered := false }]) wr := by
  refine leaves_cons (f := 62) (args := #[.pointer (some ⟨w.heap.size, 0, none⟩), .pointer (some ⟨w.heap.size + 1, 0, none⟩)]) (by simp) (by simp [go_sem]) ?_
  refine (catch_panicking ⟨w.heap.size, 0, none⟩ ⟨w.heap.size + 1, 0, none⟩ (by simp) _ _ .i64 0 _ _ [] _ rfl rfl (cell_of_one hU.b0) (free_of_one hU.b0) (cell_of_one hU.b1) (free_of_one hU.b1)).mono ?_
  rintro e u' w'' ⟨rfl, rfl, rfl⟩
  have hF : Fr [] w ((wr.setCell ⟨w.heap.size, 0, none⟩ (.slice none 0 0)).setCell ⟨w.heap.size + 1, 0, none⟩ (.int .i64 10)) := (hU.fr.setCell (.inr (Nat.le_refl _)) _).setCell (.inr (by simp)) _
  have hb0 : ((wr.setCell ⟨w.heap.size, 0, none⟩ (.slice none 0 0)).setCell ⟨w.heap.size + 1, 0, none⟩ (.int .i64 10)).cell? ⟨w.heap.size, 0, none⟩ = some (.slice none 0 0) := by
    apply cell_of_one (t := 22)
    rw [Below.heap_setCell _ _ _ _ (by simp)]
    exact one_setCell hU.b0
  have hb1 : ((wr.setCell ⟨w.heap.size, 0, none⟩ (.slice none 0 0)).setCell ⟨w.heap.size + 1, 0, none⟩ (.int .i64 10)).cell? ⟨w.heap.size + 1, 0, none⟩ = some (.int .i64 10) := by
    apply cell_of_one (t := 35)
    apply one_setCell (v := .int .i64 0)
    rw [Below.heap_setCell _ _ _ _ (by simp)]
    exact hU.b1
  rw [Array.getD_eq_getD_getElem?] at h2 h3
  have hP : UnhPost w L (.returned (.tuple #[.slice none 0 0, .int .i64 10])) ((wr.setCell ⟨w.heap.size, 0, none⟩ (.slice none 0 0)).setCell ⟨w.heap.size + 1, 0, none⟩ (.int .i64 10)) := ⟨.inr ⟨hbad, rfl⟩, hF⟩
  generalize (wr.setCell ⟨w.heap.size, 0, none⟩ (.slice none 0 0)).setCell ⟨w.heap.size + 1, 0, none⟩ (.int .i64 10) = w9 at *
  show Leaves _ _ _ _ [] _ _
  simp [Leaves, settle]
  refine ⟨.tuple #[.slice none 0 0, .int .i64 10], ?_, hP⟩
  simp [results, Try.results37, h2, h3, go_sem, hb0, hb1]

theorem set_self {w : World} {b : Nat} {v : Value} {t : TypeId} (h : w.heap[b]? = some (.cells #[v] t (0, 0))) : w.setCell ⟨b, 0, none⟩ v = w := by
  cases w with
  | mk heap tape drawn os output =>
    simp only [World.setCell]
    congr 1
    apply Array.ext_getElem?
    intro i
    rw [Array.getElem?_modify]
    by_cases hi : b = i
    · subst hi
      simp only at h
      rw [if_pos rfl, h]
      simp
    · rw [if_neg hi]

theorem ok_end {w wr : World} {m : Nat} {L : List UInt8} (hU : UH w w.heap.size m m L wr) (hall : AllDig L) (hL : L.length = 2 * m) (tmps : Array Value) (h2 : tmps.getD 2 undef = .pointer (some ⟨w.heap.size, 0, none⟩)) (h3 : tmps.getD 3 undef = .pointer (some ⟨w.heap.size + 1, 0, none⟩)) :
    Leaves Try.prog Try.f37 tmps (UnhPost w L) [{ target := Target.fn (Fn.func 62) #[Value.pointer (some ⟨w.heap.size, 0, none⟩), Value.pointer (some ⟨w.heap.size + 1, 0, none⟩)], args := #[] }] .returning wr := by
  refine leaves_cons (f := 62) (args := #[.pointer (some ⟨w.heap.size, 0, none⟩), .pointer (some ⟨w.heap.size + 1, 0, none⟩)]) (by simp) (by simp [go_sem]) ?_
  refine (catch_idle ⟨w.heap.size, 0, none⟩ ⟨w.heap.size + 1, 0, none⟩ wr).mono ?_
  rintro e u' w'' ⟨rfl, rfl, rfl⟩
  rw [Array.getD_eq_getD_getElem?] at h2 h3
  have hb0 := cell_of_one hU.b0
  have hb1 := cell_of_one hU.b1
  have ho := hU.own
  rw [Nat.sub_self, List.replicate_zero, List.append_nil] at ho
  have h4 : L.length / 2 = m := by omega
  have hP : UnhPost w L (.returned (.tuple #[.slice (some ⟨w.heap.size + 2, 0, none⟩) m m, .int .i64 0])) w'' := ⟨.inl ⟨hall, _, rfl, by rw [h4]; exact own_ext ho (by omega)⟩, hU.fr⟩
  show Leaves _ _ _ _ [] _ _
  simp [Leaves, settle]
  refine ⟨.tuple #[.slice (some ⟨w.heap.size + 2, 0, none⟩) m m, .int .i64 0], ?_, hP⟩
  simp [results, Try.results37, h2, h3, go_sem, hb0, hb1]

set_option maxRecDepth 20000 in
set_option maxHeartbeats 1000000 in
theorem unhex_even (s : ByteArray) (w : World) (hs : s.size ≤ 262144) (m : Nat) (hm : s.size = 2 * m) :
    Calls Try.prog 37 #[.string s] w (UnhPost w s.data.toList) := by
  have h1 : (((s.size : Int) % 2) == 0) = true := by rw [beq_iff_eq]; omega
  have hq : (s.size : Int) / 2 = m := by omega
  have HM := Lib.hid hm
  generalize hW2 : (w.alloc (.cells #[.slice none 0 0] 22)).alloc (.cells #[.int .i64 0] 35) = W2
  have hz2 : W2.heap.size = w.heap.size + 2 := by rw [← hW2]; simp
  have hb0 : W2.heap[w.heap.size]? = some (.cells #[.slice none 0 0] 22 (0, 0)) := by rw [← hW2, Below.heap_alloc _ _ _ (by simp)]; exact heap_alloc_new w _
  have hb1 : W2.heap[w.heap.size + 1]? = some (.cells #[.int .i64 0] 35 (0, 0)) := by rw [← hW2]; exact (by simpa using heap_alloc_new (w.alloc (.cells #[.slice none 0 0] 22)) (.cells #[.int .i64 0] 35))
  have hF2 : Fr [] w W2 := by rw [← hW2]; exact ((Fr.refl _ w).alloc _).alloc _
  obtain ⟨i0, hi, hz0, hz1, hz3⟩ := info_parts info8
  obtain ⟨w3, hmk, ho, hg⟩ := run_make_full (P := Try.prog) W2 (w.heap.size + 2) 22 5 i0 (.int .u8 0) 1 Try.underlying22 hi hz0 hz1 .i64 .i64 m (by rw [hz3]; omega) (by unfold maxLen; omega) (by omega)
  have hzc : (madeCells (Value.int .u8 0).cells (m * 1)).toList = B8 (List.replicate m 0) := by
    rw [Nat.mul_one]
    show (madeCells #[Value.int .u8 0] m).toList = _
    rw [toList_madeCells_one]
    simp [B8]
  rw [hzc] at ho
  have hg' : Fr [] W2 w3 := (Fr.refl _ _).grown hg (by simp)
  have hF3 : Fr [] w w3 := hF2.trans2 hg' (by simp)
  have hb0' := hg'.blk hb0 (by simp)
  have hb1' := hg'.blk hb1 (by simp)
  rw [hz2] at hmk ho
  have hc0 : w3.cell? ⟨w.heap.size, 0, none⟩ = some (.slice none 0 0) := cell_of_one hb0'
  have hf0 : w3.frozen? ⟨w.heap.size, 0, none⟩ = false := free_of_one hb0'
  have hUH : UH w w.heap.size m 0 s.data.toList (w3.setCell ⟨w.heap.size, 0, none⟩ (.slice (some ⟨w.heap.size + 2, 0, none⟩) m m)) := by
    refine ⟨one_setCell hb0', ?_, ?_, hF3.setCell (.inr (Nat.le_refl _)) _, by simp⟩
    · rw [Below.heap_setCell _ _ _ _ (by simp)]; exact hb1'
    · refine ownsRow_setCell_below (by simpa [decK] using ho) (by simp) _
  have HU := Lib.hid hUH
  have hmf : ∀ (fn : Fn) (first cap : Array Value) (w : World), (Instr.makeFunc fn first cap).run Try.prog w = .ok (.func fn first cap) w := fun _ _ _ _ => rfl
  clear hUH ho hg hg' hF3 hb0' hb1' hb0 hb1 hF2 hi hz0 hz1 hz3 hzc hz2 hm
  subst hW2
  go_enter_defers Try.func37, Try.ntmps37
  go_wp2
  generalize w3.setCell ⟨w.heap.size, 0, none⟩ (.slice (some ⟨w.heap.size + 2, 0, none⟩) m m) = w4 at HU
  go_loopw [19] (fun i wr => ∃ k : Nat, k ≤ m ∧ i = .int .i64 k ∧ UH w w.heap.size m k s.data.toList wr) (fun i _ => m - (intOf i).toNat)
  case atStart => exact ⟨0, Nat.zero_le _, rfl, HU.out⟩
  case round =>
    obtain ⟨k, hk, rfl, hU⟩ := hrel
    clear HU hmk hc0 hf0
    by_cases hlt : k < m
    · have hk2 : 2 * k < s.size := by have := HM.out; omega
      have hk3 : 2 * k + 1 < s.size := by have := HM.out; omega
      have hkb : (k : Int) < 131072 := by have := HM.out; omega
      have hk4 : (0 : Int) ≤ 2 * (k : Int) ∧ 2 * (k : Int) < (s.size : Int) := by omega
      have hk5 : (0 : Int) ≤ 2 * (k : Int) + 1 ∧ 2 * (k : Int) + 1 < (s.size : Int) := by omega
      have hg0 : wr.cell? ⟨w.heap.size, 0, none⟩ = some (.slice (some ⟨w.heap.size + 2, 0, none⟩) m m) := cell_of_one hU.b0
      have hfk := hU.own.frozenAt k
      go_wp2
      clear hq h1
      have hq1 : (2 * (k : Int)).toNat < s.size := by omega
      have hq2 : (2 * (k : Int) + 1).toNat < s.size := by omega
      have hn1 : (2 * (k : Int)).toNat = 2 * k := by omega
      have hn2 : (2 * (k : Int) + 1).toNat = 2 * k + 1 := by omega
      have hs1 : s[(2 * (k : Int)).toNat]'hq1 = s.data.toList.getD (2 * k) 0 := by rw [str_get]; rw [hn1]
      have hs2 : s[(2 * (k : Int) + 1).toNat]'hq2 = s.data.toList.getD (2 * k + 1) 0 := by rw [str_get]; rw [hn2]
      clear hn1 hn2
      generalize hga : s.data.toList.getD (2 * k) 0 = ca at hs1
      generalize hgb : s.data.toList.getD (2 * k + 1) 0 = cb at hs2
      have HGA := Lib.hid hga
      have HGB := Lib.hid hgb
      clear hga hgb
      have hw1 : IntKind.i64.wrap (2 * (k : Int)) = 2 * (k : Int) := IntWalk.i64_in _ (by omega)
      have hw2 : IntKind.i64.wrap (2 * (k : Int) + 1) = 2 * (k : Int) + 1 := IntWalk.i64_in _ (by omega)
      by_cases hd : 0 ≤ dg ca ∧ 0 ≤ dg cb
      · obtain ⟨hda, hdb⟩ := hd
        have hla := dg_lt ca
        have hlb := dg_lt cb
        refine wp_region_still_tail 16 (by kernel_rfl) (by kernel_rfl) ?_
        simp only [List.take_succ_cons, List.take_zero, List.drop_succ_cons, List.drop_zero]
        change wpStill _ _ wr.drew _ _ _
        have hca := (digit_yes ca wr.drew hda).mono fun e w' h => (⟨h.1, h.2.symm⟩ : e = .returned (.int .u8 (dg ca)) ∧ w' = wr.drew)
        have hcb := (digit_yes cb wr.drew hdb).mono fun e w' h => (⟨h.1, h.2.symm⟩ : e = .returned (.int .u8 (dg cb)) ∧ w' = wr.drew)
        iterate 6 still_step
        still_call hca
        iterate 6 still_step
        still_call hcb
        iterate 2 still_step
        refine wpStill_nil ?_
        have hck : wr.cell? ⟨w.heap.size + 2, k, none⟩ = some (.int .u8 0) := by
          rw [hU.own.cellAt k (by omega), B8_get, List.getElem?_append_right (by rw [decK_length]; exact Nat.le_refl _), decK_length, Nat.sub_self]
          simp only [List.getElem?_replicate]
          rw [if_pos (by omega)]
          rfl
        have hv := orpb ca cb hda hdb
        have hU2 : UH w w.heap.size m (k + 1) s.data.toList (wr.setCell ⟨w.heap.size + 2, k, none⟩ (.int .u8 (pb ca cb).toNat)) := by
          refine ⟨?_, ?_, ?_, hU.fr.setCell (.inr (by simp)) _, ?_⟩
          · rw [Below.heap_setCell _ _ _ _ (by simp)]; exact hU.b0
          · rw [Below.heap_setCell _ _ _ _ (by simp)]; exact hU.b1
          · have hst := hU.own.stored k (.int .u8 (pb ca cb).toNat)
            rw [decK_succ, HGA.out, HGB.out]
            have hset := B8_set (decK s.data.toList k) (pb ca cb) (m - k) (by omega)
            rw [decK_length] at hset
            rw [hset, show m - k - 1 = m - (k + 1) from by omega] at hst
            exact hst.1
          · intro i hi
            rcases Nat.lt_or_ge i (2 * k) with h | h
            · exact hU.ok i h
            · rcases (show i = 2 * k ∨ i = 2 * k + 1 from by omega) with rfl | rfl
              · rw [HGA.out]; exact hda
              · rw [HGB.out]; exact hdb
        have HU2 := Lib.hid hU2
        clear hU2 hU
        change wpList _ _ _ _ _ wr.drew
        go_wp2
        go_roundw
        case rel => exact ⟨k + 1, by omega, by go_num, HU2.out.alk rfl rfl rfl rfl⟩
        case measure => simp [intOf]; omega
      · have hbad : ¬ AllDig s.data.toList := by
          intro h
          have hL : s.data.toList.length = s.size := by rw [Array.length_toList]; rfl
          have h1 := h (2 * k) (by omega)
          have h2 := h (2 * k + 1) (by omega)
          rw [HGA.out] at h1
          rw [HGB.out] at h2
          exact hd ⟨h1, h2⟩
        have hend' := Lib.hid (bad_end (hU.alk (w' := wr.drew) rfl rfl rfl rfl) hbad)
        clear hU hbad
        by_cases hda : 0 ≤ dg ca
        · have hdb : dg cb < 0 := by omega
          clear hd
          refine wp_region_any (by kernel_rfl) ?_
          change wpAny _ _ _ _ _ _ _ (World.drew _)
          refine wpAny_take (i := 1) (v := ?_) rfl (by kernel_rfl) (by kernel_rfl) (by kernel_rfl) (fun c a w h => unhex_put (by decide) (by decide) h) (Or.inl ⟨by rfl, ?_⟩) ?_
          rotate_left 1
          · intro w; go_simp; with_reducible rfl
          refine wpAny_take (i := 2) (v := ?_) rfl (by kernel_rfl) (by kernel_rfl) (by kernel_rfl) (fun c a w h => unhex_put (by decide) (by decide) h) (Or.inl ⟨by rfl, ?_⟩) ?_
          rotate_left 1
          · intro w; go_simp; with_reducible rfl
          refine wpAny_take (i := 3) (v := ?_) rfl (by kernel_rfl) (by kernel_rfl) (by kernel_rfl) (fun c a w h => unhex_put (by decide) (by decide) h) (Or.inl ⟨by rfl, ?_⟩) ?_
          rotate_left 1
          · intro w; go_simp; with_reducible rfl
          refine wpAny_take (i := 4) (v := ?_) rfl (by kernel_rfl) (by kernel_rfl) (by kernel_rfl) (fun c a w h => unhex_put (by decide) (by decide) h) (Or.inl ⟨by rfl, ?_⟩) ?_
          rotate_left 1
          · intro w; go_simp; with_reducible rfl
          refine wpAny_take (i := 5) (v := ?_) rfl (by kernel_rfl) (by kernel_rfl) (by kernel_rfl) (fun c a w h => unhex_put (by decide) (by decide) h) (Or.inl ⟨by rfl, ?_⟩) ?_
          rotate_left 1
          · intro w; go_simp; with_reducible rfl
          refine wpAny_take (i := 8) (v := ?_) rfl (by kernel_rfl) (by kernel_rfl) (by kernel_rfl) (fun c a w h => unhex_put (by decide) (by decide) h) (Or.inl ⟨by rfl, ?_⟩) ?_
          rotate_left 1
          · intro w; go_simp; with_reducible rfl
          refine wpAny_take (i := 9) (v := ?_) rfl (by kernel_rfl) (by kernel_rfl) (by kernel_rfl) (fun c a w h => unhex_put (by decide) (by decide) h) (Or.inl ⟨by rfl, ?_⟩) ?_
          rotate_left 1
          · intro w; go_simp; with_reducible rfl
          refine wpAny_take (i := 10) (v := ?_) rfl (by kernel_rfl) (by kernel_rfl) (by kernel_rfl) (fun c a w h => unhex_put (by decide) (by decide) h) (Or.inl ⟨by rfl, ?_⟩) ?_
          rotate_left 1
          · intro w; go_simp; with_reducible rfl
          refine wpAny_take (i := 11) (v := ?_) rfl (by kernel_rfl) (by kernel_rfl) (by kernel_rfl) (fun c a w h => unhex_put (by decide) (by decide) h) (Or.inl ⟨by rfl, ?_⟩) ?_
          rotate_left 1
          · intro w; go_simp; with_reducible rfl
          refine wpAny_take (i := 12) (v := ?_) rfl (by kernel_rfl) (by kernel_rfl) (by kernel_rfl) (fun c a w h => unhex_put (by decide) (by decide) h) (Or.inl ⟨by rfl, ?_⟩) ?_
          rotate_left 1
          · intro w; go_simp; with_reducible rfl
          refine wpAny_ready (rs := [0, 6]) (by kernel_rfl) (by simp) ?_
          refine AllReady.cons rfl (fun K hK => ?_) ?_
          · go_simp
            refine hK _ _ ?_
            clear hK K
            refine wpAny_ready (rs := [6]) (by kernel_rfl) (by simp) ?_
            refine AllReady.cons rfl (fun K hK => ?_) ?_
            · go_simp
              refine (digit_yes ca _ hda).mono ?_
              rintro e w' ⟨rfl, rfl⟩
              refine hK _ _ ?_
              clear hK K
              refine wpAny_take (i := 7) (v := ?_) rfl (by kernel_rfl) (by kernel_rfl) (by kernel_rfl) (fun c a w h => unhex_put (by decide) (by decide) h) (Or.inl ⟨by rfl, ?_⟩) ?_
              rotate_left 1
              · intro w; go_simp; with_reducible rfl
              refine wpAny_ready (rs := [13]) (by kernel_rfl) (by simp) ?_
              refine AllReady.cons rfl (fun K hK => ?_) ?_
              · go_simp
                refine (digit_no cb _ hdb).mono ?_
                rintro e w' ⟨rfl, rfl⟩
                exact hend'.out _ rfl rfl
              exact AllReady.nil
            exact AllReady.nil
          refine AllReady.cons rfl (fun K hK => ?_) ?_
          · go_simp
            refine (digit_yes ca _ hda).mono ?_
            rintro e w' ⟨rfl, rfl⟩
            refine hK _ _ ?_
            clear hK K
            refine wpAny_take (i := 7) (v := ?_) rfl (by kernel_rfl) (by kernel_rfl) (by kernel_rfl) (fun c a w h => unhex_put (by decide) (by decide) h) (Or.inl ⟨by rfl, ?_⟩) ?_
            rotate_left 1
            · intro w; go_simp; with_reducible rfl
            refine wpAny_ready (rs := [0, 13]) (by kernel_rfl) (by simp) ?_
            refine AllReady.cons rfl (fun K hK => ?_) ?_
            · go_simp
              refine hK _ _ ?_
              clear hK K
              refine wpAny_ready (rs := [13]) (by kernel_rfl) (by simp) ?_
              refine AllReady.cons rfl (fun K hK => ?_) ?_
              · go_simp
                refine (digit_no cb _ hdb).mono ?_
                rintro e w' ⟨rfl, rfl⟩
                exact hend'.out _ rfl rfl
              exact AllReady.nil
            refine AllReady.cons rfl (fun K hK => ?_) ?_
            · go_simp
              refine (digit_no cb _ hdb).mono ?_
              rintro e w' ⟨rfl, rfl⟩
              exact hend'.out _ rfl rfl
            exact AllReady.nil
          exact AllReady.nil
        · have hda : dg ca < 0 := by omega
          clear hd
          refine wp_region_any (by kernel_rfl) ?_
          change wpAny _ _ _ _ _ _ _ (World.drew _)
          refine wpAny_take (i := 1) (v := ?_) rfl (by kernel_rfl) (by kernel_rfl) (by kernel_rfl) (fun c a w h => unhex_put (by decide) (by decide) h) (Or.inl ⟨by rfl, ?_⟩) ?_
          rotate_left 1
          · intro w; go_simp; with_reducible rfl
          refine wpAny_take (i := 2) (v := ?_) rfl (by kernel_rfl) (by kernel_rfl) (by kernel_rfl) (fun c a w h => unhex_put (by decide) (by decide) h) (Or.inl ⟨by rfl, ?_⟩) ?_
          rotate_left 1
          · intro w; go_simp; with_reducible rfl
          refine wpAny_take (i := 3) (v := ?_) rfl (by kernel_rfl) (by kernel_rfl) (by kernel_rfl) (fun c a w h => unhex_put (by decide) (by decide) h) (Or.inl ⟨by rfl, ?_⟩) ?_
          rotate_left 1
          · intro w; go_simp; with_reducible rfl
          refine wpAny_take (i := 4) (v := ?_) rfl (by kernel_rfl) (by kernel_rfl) (by kernel_rfl) (fun c a w h => unhex_put (by decide) (by decide) h) (Or.inl ⟨by rfl, ?_⟩) ?_
          rotate_left 1
          · intro w; go_simp; with_reducible rfl
          refine wpAny_take (i := 5) (v := ?_) rfl (by kernel_rfl) (by kernel_rfl) (by kernel_rfl) (fun c a w h => unhex_put (by decide) (by decide) h) (Or.inl ⟨by rfl, ?_⟩) ?_
          rotate_left 1
          · intro w; go_simp; with_reducible rfl
          refine wpAny_take (i := 8) (v := ?_) rfl (by kernel_rfl) (by kernel_rfl) (by kernel_rfl) (fun c a w h => unhex_put (by decide) (by decide) h) (Or.inl ⟨by rfl, ?_⟩) ?_
          rotate_left 1
          · intro w; go_simp; with_reducible rfl
          refine wpAny_take (i := 9) (v := ?_) rfl (by kernel_rfl) (by kernel_rfl) (by kernel_rfl) (fun c a w h => unhex_put (by decide) (by decide) h) (Or.inl ⟨by rfl, ?_⟩) ?_
          rotate_left 1
          · intro w; go_simp; with_reducible rfl
          refine wpAny_take (i := 10) (v := ?_) rfl (by kernel_rfl) (by kernel_rfl) (by kernel_rfl) (fun c a w h => unhex_put (by decide) (by decide) h) (Or.inl ⟨by rfl, ?_⟩) ?_
          rotate_left 1
          · intro w; go_simp; with_reducible rfl
          refine wpAny_take (i := 11) (v := ?_) rfl (by kernel_rfl) (by kernel_rfl) (by kernel_rfl) (fun c a w h => unhex_put (by decide) (by decide) h) (Or.inl ⟨by rfl, ?_⟩) ?_
          rotate_left 1
          · intro w; go_simp; with_reducible rfl
          refine wpAny_take (i := 12) (v := ?_) rfl (by kernel_rfl) (by kernel_rfl) (by kernel_rfl) (fun c a w h => unhex_put (by decide) (by decide) h) (Or.inl ⟨by rfl, ?_⟩) ?_
          rotate_left 1
          · intro w; go_simp; with_reducible rfl
          refine wpAny_ready (rs := [0, 6]) (by kernel_rfl) (by simp) ?_
          refine AllReady.cons rfl (fun K hK => ?_) ?_
          · go_simp
            refine hK _ _ ?_
            clear hK K
            refine wpAny_ready (rs := [6]) (by kernel_rfl) (by simp) ?_
            refine AllReady.cons rfl (fun K hK => ?_) ?_
            · go_simp
              refine (digit_no ca _ hda).mono ?_
              rintro e w' ⟨rfl, rfl⟩
              exact hend'.out _ rfl rfl
            exact AllReady.nil
          refine AllReady.cons rfl (fun K hK => ?_) ?_
          · go_simp
            refine (digit_no ca _ hda).mono ?_
            rintro e w' ⟨rfl, rfl⟩
            exact hend'.out _ rfl rfl
          exact AllReady.nil
    · obtain rfl : k = m := by omega
      have hL : s.data.toList.length = s.size := by rw [Array.length_toList]; rfl
      have hall : AllDig s.data.toList := fun i hi => hU.ok i (by have := HM.out; omega)
      have hg0 : wr.cell? ⟨w.heap.size, 0, none⟩ = some (.slice (some ⟨w.heap.size + 2, 0, none⟩) k k) := cell_of_one hU.b0
      have hf0 : wr.frozen? ⟨w.heap.size, 0, none⟩ = false := free_of_one hU.b0
      have hend' := Lib.hid (ok_end hU hall (by rw [hL]; exact HM.out))
      have hself : wr.setCell ⟨w.heap.size, 0, none⟩ (.slice (some ⟨w.heap.size + 2, 0, none⟩) k k) = wr := set_self hU.b0
      have hg1 : wr.cell? ⟨w.heap.size + 1, 0, none⟩ = some (.int .i64 0) := cell_of_one hU.b1
      have hf1 : wr.frozen? ⟨w.heap.size + 1, 0, none⟩ = false := free_of_one hU.b1
      have hself1 : wr.setCell ⟨w.heap.size + 1, 0, none⟩ (.int .i64 0) = wr := set_self hU.b1
      clear hU hall
      go_wp2
      exact hend'.out _ rfl rfl
end Go.Proofs.Ytbgikpbhjeanoaa
