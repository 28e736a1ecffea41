/- The cover of a range: the range function that yields it. -/
import Derived.Test.YtjfadoealhlccaaGreatDoorWid
import Derived.Test.YtjfadoealhlccaaGreatDoorStin
import Derived.Sort.QuietTacIn
namespace Go.Proofs.YtjfadoealhlccaaGreatDoor
open Go.RowKit Go.Shelf
set_option linter.unusedVariables false
attribute [local go_sem] Oper.semAt_some

theorem okw_up {f t n m : Nat} (h : PR f n ∧ f + (psize n - 1) ≤ t) (hnm : n ≤ m) (hm : m ≤ 32) : PR f m ∧ f + (psize m - 1) ≤ t := by
  induction m with
  | zero => have : n = 0 := by omega
            subst this; exact h
  | succ m ih =>
    by_cases e : n = m + 1
    · rw [← e]; exact h
    · obtain ⟨h1, h2⟩ := ih (by omega) (by omega)
      refine ⟨pr_succ h1 (by omega), ?_⟩
      have := psize_succ (n := m) (by omega)
      omega
theorem isW_uniq {f t n m : Nat} (h : IsW f t n) (k : IsW f t m) : n = m := by
  obtain ⟨h1, h2, h3⟩ := h
  obtain ⟨k1, k2, k3⟩ := k
  rcases Nat.lt_trichotomy n m with hl | hl | hl
  · exact absurd (okw_up ⟨h1, h2⟩ (show n ≤ m - 1 by omega) (by have := k1.1; omega)) (by rcases k3 with e | e; omega; exact e)
  · exact hl
  · exact absurd (okw_up ⟨k1, k2⟩ (show m ≤ n - 1 by omega) (by have := h1.1; omega)) (by rcases h3 with e | e; omega; exact e)

/-- The prefixes that cover a range, the widest first. -/
inductive Cov (t : Nat) : Nat → List (Nat × Nat) → Prop
  | last {f n : Nat} (h : IsW f t n) (e : f + (psize n - 1) = t) : Cov t f [(f, n)]
  | more {f n : Nat} {l : List (Nat × Nat)} (h : IsW f t n) (e : f + (psize n - 1) < t) (r : Cov t (f + psize n) l) : Cov t f ((f, n) :: l)
def encP (p : Nat × Nat) : Value := .agg #[.int .u32 p.1, .int .u8 p.2]

theorem VV.frS {S : List Nat} {base w w' : World} (h0 : VV base) (hS : ∀ s ∈ S, base.heap.size ≤ s) (h : VV w) (hF : Fr S w w') : VV w' := by
  have hlt : ∀ g, g < base.heap.size → g ∉ S := fun g hg hs => by have := hS g hs; omega
  have cl : ∀ {g j : Nat} {v : Value}, base.cell? ⟨g, j, none⟩ = some v → g < base.heap.size := fun h => World.block_lt_of_cell? base _ h
  refine ⟨?_, ?_, ?_, fun j hj => hF.cell (h.bits j hj) (hlt _ (cl (h0.bits 0 (by decide))))⟩
  · have e : Tryz.prog.globalNamed "internal/strconv.uint64pow10" = some 2 := by kernel_rfl
    have hb := (h0.pow).cell e 0 (by decide)
    have hp := h.pow
    unfold Lib.TabIs World.var? at hp ⊢
    simp only [e, Option.bind_some] at hp ⊢
    have hl : 2 < w.heap.size := by
      rcases Nat.lt_or_ge 2 w.heap.size with h' | h'
      · exact h'
      · simp [Array.getElem?_eq_none h'] at hp
    rw [hF.block _ hl (hlt _ (cl hb))]
    exact hp
  · obtain ⟨a, b, hc⟩ := h.es; obtain ⟨_, _, hc0⟩ := h0.es; exact ⟨a, b, hF.cell hc (hlt _ (cl hc0))⟩
  · obtain ⟨a, b, hc⟩ := h.er; obtain ⟨_, _, hc0⟩ := h0.er; exact ⟨a, b, hF.cell hc (hlt _ (cl hc0))⟩

theorem fr_fz {S : List Nat} {w w' : World} (hF : Fr S w w') {g j : Nat} (hg : g < w.heap.size) (hS : g ∉ S) (h : w.frozen? ⟨g, j, none⟩ = false) : w'.frozen? ⟨g, j, none⟩ = false := by
  unfold World.frozen? at h ⊢
  simp only at h ⊢
  rw [hF.block g hg hS]
  exact h
theorem fz_block {w w' : World} {g j : Nat} (hb : w'.heap[g]? = w.heap[g]?) (h : w.frozen? ⟨g, j, none⟩ = false) : w'.frozen? ⟨g, j, none⟩ = false := by
  unfold World.frozen? at h ⊢
  simp only at h ⊢
  rw [hb]
  exact h
/-- What may have changed since a world, but for one block: nothing; and what is new since. -/
def Kept (Bf : Nat) (W1 W W' : World) : Prop := ∀ b, ((W1.heap.size ≤ b ∧ b < W.heap.size) ∨ b = Bf) → W'.heap[b]? = W.heap[b]?

set_option maxRecDepth 100000 in
set_option maxHeartbeats 4000000 in
theorem cover1_in (n l Bf Bt f t : Nat) (L : List (Nat × Nat)) (hC : Cov t f L) (hft : f ≤ t) (ht : t < 4294967296) (hn : 1 ≤ n) (J : List (Nat × Nat) → World → Prop)
    (hJ : ∀ pre W W', J pre W → Fr [Bf] W W' → J pre W')
    (hJV : ∀ pre W, J pre W → VV W ∧ W.cell? ⟨Bt, 0, none⟩ = some (.int .u32 t))
    (hY : ∀ pre x W1 W, J pre W1 → pre.length < L.length → Fr [Bf] W1 W → YieldAt Fence.wide (n - 1) Tryz.prog l #[encP x] W fun e W' => e = .returned (.bool true) ∧ J (pre ++ [x]) W' ∧ Kept Bf W1 W W')
    (W : World) (hBf : W.cell? ⟨Bf, 0, none⟩ = some (.int .u32 f)) (hfz0 : W.frozen? ⟨Bf, 0, none⟩ = false) (h0 : J [] W) :
    CallsIn Fence.wide n Tryz.prog 74 #[.func (.yield l) #[] #[], .pointer (some ⟨Bf, 0, none⟩), .pointer (some ⟨Bt, 0, none⟩)] W fun e W' => (∃ v, e = .returned v) ∧ J L W' := by
  refine callsIn_of_wp Tryz.func74 rfl trivial ?_ rfl
  simp only [Tryz.ntmps74, List.size_toArray, List.length_cons, List.length_nil, Nat.reduceAdd, Nat.reduceSub, Array.replicate_succ, Array.replicate_zero, List.push_toArray, List.append_toArray, List.nil_append, List.cons_append]
  gi_wp2
  gi_loopw [] (fun wr => ∃ (pre rest : List (Nat × Nat)) (g : Nat), L = pre ++ rest ∧ Cov t g rest ∧ g ≤ t ∧ J pre wr ∧ wr.cell? ⟨Bf, 0, none⟩ = some (.int .u32 g) ∧ wr.frozen? ⟨Bf, 0, none⟩ = false)
    (fun wr => match wr.cell? ⟨Bf, 0, none⟩ with | some (.int _ z) => t + 1 - z.toNat | _ => 0)
  case atStart => exact ⟨[], L, f, rfl, hC, hft, h0, hBf, hfz0⟩
  case round =>
    obtain ⟨pre, rest, g, hL, hCg, hgt, hJs, hcf, hfz⟩ := hrel
    obtain ⟨hV, hct⟩ := hJV _ _ hJs
    have hBl := World.block_lt_of_cell? wr _ hcf
    obtain ⟨m, hm⟩ : ∃ m, IsW g t m := by cases hCg with | last h _ => exact ⟨_, h⟩ | more h _ _ => exact ⟨_, h⟩
    have hW := widest_any g t hgt ht wr hV
    have HL := Lib.hid hL
    have mixed : Tryz.prog.follows .mixedOrders = true := by kernel_rfl
    clear hL
    gi_wp2_with (refine ⟨trivial, ?_⟩; refine (callsIn_wide.2 hW).mono ?_; rintro e w1 ⟨⟨m2, hm2, rfl⟩, hF1⟩)
    obtain rfl : m2 = m := isW_uniq hm2 hm
    have hF2 : Fr [Bf] wr ((w1.alloc (.cells #[.int .u32 g, .int .u8 m2] 55)).drew) := (hF1.nil.alloc _).drew
    have q0 : (w1.alloc (.cells #[.int .u32 g, .int .u8 m2] 55)).cell? ⟨w1.heap.size, 0, none⟩ = some (.int .u32 g) := new_cell _ _ _ 0 _ rfl
    have q1 : (w1.alloc (.cells #[.int .u32 g, .int .u8 m2] 55)).cell? ⟨w1.heap.size, 1, none⟩ = some (.int .u8 m2) := new_cell _ _ _ 1 _ rfl
    have qb := blk_new w1 #[.int .u32 g, .int .u8 m2] 55
    have qf := ((Fr.refl [] _).alloc (.cells #[.int .u32 g, .int .u8 m2] 55)).cell (hF1.cell hcf (by simp)) (by simp)
    have qz : (w1.alloc (.cells #[.int .u32 g, .int .u8 m2] 55)).frozen? ⟨Bf, 0, none⟩ = false := fr_fz (hF1.alloc _) hBl (by simp) hfz
    have hrl : pre.length < L.length := by
      have : 0 < rest.length := by cases hCg <;> simp
      rw [HL.out, List.length_append]
      omega
    obtain ⟨fn, tmps, assign, body, hy, hR⟩ := hY pre (g, m2) wr _ hJs hrl hF2
    have hsz := hF1.size
    have hp := hm.1
    have hg2 : g < 4294967296 := by omega
    unfold encP at hy
    simp only at hy
    generalize w1.alloc (.cells #[.int .u32 g, .int .u8 m2] 55) = w2 at hF2 q0 q1 qb qf qz hy hR ⊢
    have hnew : w1.heap.size < w2.drew.heap.size := (Array.getElem?_eq_some_iff.1 qb).1
    have hLast := fun W => last_pr g m2 hg2 hp W
    obtain ⟨lv, hlv⟩ : ∃ lv, lv = g + (psize m2 - 1) := ⟨_, rfl⟩
    rw [← hlv] at hLast
    have hlt : lv ≤ t := by rw [hlv]; exact hm.2.1
    have HLV := Lib.hid hlv
    have HCG := Lib.hid hCg
    have HCF := Lib.hid hcf
    have hps := psize_pos m2
    clear hW hY hm2 hcf hct hfz hV hJs hF1 hlv hCg
    gi_region_with_o (first
      | (refine hR.mono ?_
         rintro e W3 ⟨rfl, hJ3, hK3⟩
         have p3 := (hK3 w1.heap.size (.inl ⟨hsz, hnew⟩)).trans qb
         have p0 : W3.cell? ⟨w1.heap.size, 0, none⟩ = some (.int .u32 g) := blk_cell p3 rfl
         have p1 : W3.cell? ⟨w1.heap.size, 1, none⟩ = some (.int .u8 m2) := blk_cell p3 rfl
         have f3 : W3.cell? ⟨Bf, 0, none⟩ = some (.int .u32 g) := (World.cell?_of_block (hK3 Bf (.inr rfl))).trans qf
         have fz3 : W3.frozen? ⟨Bf, 0, none⟩ = false := fz_block (hK3 Bf (.inr rfl)) qz
         have tt := (hJV _ _ hJ3).2
         have hL3 := hLast W3)
      | (refine ⟨trivial, ?_⟩
         refine (callsIn_wide.2 hL3).mono ?_
         rintro e W4 ⟨rfl, hF4⟩
         have t4 := hF4.cell tt (by simp)))
    all_goals
      have hJ4 := hJ _ _ _ hJ3 hF4.nil
      have b4 := hF4.cell f3 (by simp)
      have hfz4 := fr_fz hF4 (World.block_lt_of_cell? W3 _ f3) (by simp) fz3
      have y0 := hF4.cell p0 (by simp)
      have y1 := hF4.cell p1 (by simp)
      clear hK3 hJ3 p3 p0 p1 f3 fz3 tt hL3 q0 q1 qb qf qz hy hR hF2
      by_cases hend : lv = t
      · have h17 : ((lv : Int) == (t : Int)) = true := by rw [beq_iff_eq]; omega
        have h18 : (lv == t) = true := by rw [beq_iff_eq]; exact hend
        gi_wp2
        refine bodyPost_ret (results_none rfl _ _ _) rfl ?_
        refine ⟨⟨_, rfl⟩, ?_⟩
        have hc := HCG.out
        cases hc with
        | last h e =>
          have := isW_uniq h hm
          subst this
          rw [HL.out]
          exact hJ4
        | more h e r =>
          have := isW_uniq h hm
          subst this
          have := HLV.out
          omega
      · have h17 : ((lv : Int) == (t : Int)) = false := by rw [beq_eq_false_iff_ne]; omega
        have h18 : (lv == t) = false := by rw [beq_eq_false_iff_ne]; exact hend
        have hL4 := hLast W4
        have hwr : IntKind.u32.wrap ((lv : Int) + 1) = ((lv + 1 : Nat) : Int) := by rw [IntKind.wrap_u32]; omega
        obtain ⟨nx, hnx⟩ : ∃ nx, nx = lv + 1 := ⟨_, rfl⟩
        rw [← hnx] at hwr
        gi_wp2_with (refine ⟨trivial, ?_⟩; refine (callsIn_wide.2 hL4).mono ?_; rintro e W5 ⟨rfl, hF5⟩; have z4 := hF5.cell b4 (by simp); have z5 := fr_fz hF5 (World.block_lt_of_cell? W4 _ b4) (by simp) hfz4)
        have hcell := World.cell?_setCell_same W5 ⟨Bf, 0, none⟩ (.int .u32 ((lv : Int) + 1)) z4
        have hlv := HLV.out
        have hc := HCG.out
        cases hc with
        | last h e =>
          have := isW_uniq h hm
          subst this
          omega
        | @more _ k rest' h e r =>
          have := isW_uniq h hm
          subst this
          have hnx2 : lv + 1 = g + psize k := by omega
          refine ⟨⟨pre ++ [(g, k)], rest', g + psize k, by rw [HL.out]; simp, r, by omega, hJ _ _ _ hJ4 (hF5.nil.setCell (.inl (by simp)) _), ?_, by simpa using z5⟩, ?_⟩
          · rw [hcell]
            congr 2
            omega
          · rw [hcell, HCF.out]
            show t + 1 - ((lv : Int) + 1).toNat < t + 1 - (g : Int).toNat
            omega
end Go.Proofs.YtjfadoealhlccaaGreatDoor
