/- header: the header that is read. -/
import Derived.Test.YtjpcfphmejenoaaIpw
namespace Go.Proofs.Ytjpcfphmejenoaa
open Go.RowKit
set_option linter.unusedVariables false
set_option maxRecDepth 100000

theorem rd_ite {w : World} {A B : Option Addr} {xs : List Value} {p : Prop} [Decidable p] (h1 : p → Rd w A xs) (h2 : ¬ p → Rd w B xs) : Rd w (if p then A else B) xs := by
  by_cases h : p
  · rw [if_pos h]; exact h1 h
  · rw [if_neg h]; exact h2 h
theorem rd_drop' {w : World} {b o : Nat} {xs : List UInt8} (h : Rd w (some ⟨b, o, none⟩) (B8 xs)) (k : Nat) : Rd w (some ⟨b, o + k, none⟩) (B8 (xs.drop k)) := by
  have h1 := h.drop k
  rw [B8_drop] at h1
  simpa [add_lit] using h1
def HdrP (xs : List UInt8) (w : World) (e : Ending) (w' : World) : Prop :=
  ∃ (A' : Option Addr) (c' : Nat), e = .returned (HV (hdOf xs) A' (szN xs - 20) c') ∧ w'.ownsRow w.heap.size 5 1 (.slice A' (szN xs - 20) c') (szN xs - 20) (B8 (hdOf xs).o) ∧ Fr [] w w'
/-- What every world of the region meets. -/
def HSt (w1 : World) (g0 b o : Nat) (x1 x8 x9 : UInt8) (W : World) : Prop :=
  Fr [g0] w1 W ∧ W.cell? ⟨b, o + 1, none⟩ = some (.int .u8 x1.toNat) ∧ W.cell? ⟨b, o + 8, none⟩ = some (.int .u8 x8.toNat) ∧ W.cell? ⟨b, o + 9, none⟩ = some (.int .u8 x9.toNat) ∧ (g0 < W.heap.size ∧ W.there g0 0 10 ∧ b ≠ g0)
theorem there_eq {W W' : World} {g n : Nat} (e : W'.heap[g]? = W.heap[g]?) (h : W.there g 0 n) : W'.there g 0 n := fun j hj => by
  obtain ⟨h1, h2⟩ := h j hj
  refine ⟨by rw [World.cell?_of_block (w := W) (w' := W') (a := ⟨g, 0 + j, none⟩) e]; exact h1, ?_⟩
  rw [← h2]; simp only [World.frozen?, e]
theorem there_blk {W : World} {g n : Nat} {cs : Array Value} {t : TypeId} (h : W.heap[g]? = some (.cells cs t (0, 0))) (hn : n ≤ cs.size) : W.there g 0 n := fun j hj => by
  have hz : j < cs.size := by omega
  refine ⟨?_, by simp [World.frozen?, h]⟩
  rw [Nat.zero_add]
  simp [World.cell?, h, hz]
theorem keepH {w1 W W' : World} {g0 b o : Nat} {x1 x8 x9 : UInt8} (hF : Fr [] W W') (h : HSt w1 g0 b o x1 x8 x9 W) : HSt w1 g0 b o x1 x8 x9 W' :=
  ⟨h.1.trans hF.nil, hF.cell h.2.1 (by simp), hF.cell h.2.2.1 (by simp), hF.cell h.2.2.2.1 (by simp), Nat.lt_of_lt_of_le h.2.2.2.2.1 hF.size, there_eq (hF.block g0 h.2.2.2.2.1 (by simp)) h.2.2.2.2.2.1, h.2.2.2.2.2.2⟩
theorem fr_setCells {S : List Nat} {a w : World} (h : Fr S a w) {g : Nat} (hg : g ∈ S ∨ a.heap.size ≤ g) : ∀ (vs : List Value) (o : Nat), Fr S a (w.setCells g o vs) := by
  intro vs
  induction vs generalizing w with
  | nil => intro o; exact h
  | cons v vs ih => intro o; exact ih (h.setCell (p := ⟨g, o, none⟩) hg v) (o + 1)
theorem keepSt {w1 W : World} {g0 b o : Nat} {x1 x8 x9 : UInt8} (h : HSt w1 g0 b o x1 x8 x9 W) (vs : List Value) : HSt w1 g0 b o x1 x8 x9 (W.setCells g0 0 vs) := by
  have hF : Fr [g0] W (W.setCells g0 0 vs) := fr_setCells (Fr.refl _ _) (.inl (by simp)) vs 0
  have hb : b ∉ [g0] := by simp; exact h.2.2.2.2.2.2
  refine ⟨h.1.trans hF, hF.cell h.2.1 hb, hF.cell h.2.2.1 hb, hF.cell h.2.2.2.1 hb, Nat.lt_of_lt_of_le h.2.2.2.2.1 hF.size, ?_, h.2.2.2.2.2.2⟩
  exact World.there_setCells h.2.2.2.2.2.1 _ _ _
theorem own_setCells {w : World} {base base' : Nat} {e : TypeId} {v : Value} {n g : Nat} {xs : List Value} (h : w.ownsRow base e 1 v n xs) (hg : g < base) (hb : base' ≤ base) (vs : List Value) : (w.setCells g 0 vs).ownsRow base' e 1 v n xs :=
  own_ext ((fr_setCells (Fr.refl [g] w) (.inl (by simp)) vs 0).own h (fun k hk => by have := (h.lt k hk).1; simp; omega)) hb
theorem start_H {w w1 : World} {b o : Nat} {x1 x8 x9 : UInt8} {cs : Array Value} {t : TypeId} (hF0 : Fr [] w w1) (hF : Fr [] (w.alloc (.cells cs t)) w1)
    (h1 : w.cell? ⟨b, o + 1, none⟩ = some (.int .u8 x1.toNat)) (h8 : w.cell? ⟨b, o + 8, none⟩ = some (.int .u8 x8.toNat)) (h9 : w.cell? ⟨b, o + 9, none⟩ = some (.int .u8 x9.toNat)) (hz : 10 ≤ cs.size := by decide) :
    HSt w1 w.heap.size b o x1 x8 x9 w1.drew := by
  have hb : b < w.heap.size := World.block_lt_of_cell? w _ h1
  have hlt : w.heap.size < w1.heap.size := by have := hF.size; simp at this; omega
  refine ⟨(Fr.refl _ _).drew, hF0.cell h1 (by simp), hF0.cell h8 (by simp), hF0.cell h9 (by simp), hlt, ?_, by omega⟩
  exact there_blk (W := w1.drew) (hF.blk (heap_alloc_new w (.cells cs t)) (by simp)) hz

set_option maxHeartbeats 4000000 in
theorem header_any (A : Option Addr) (n c : Nat) (xs : List UInt8) (w : World) (hl : xs.length = n) (hrd : Rd w A (B8 xs)) (hnc : n ≤ c) (hn : n ≤ 140737488351232) (h20 : 20 ≤ n) (hs : 20 ≤ szN xs) (hsn : szN xs ≤ n) :
    Calls Try.prog 29 #[.slice A n c] w (HdrP xs w) := by
  obtain ⟨x1, hx1, ex1⟩ := bt_get (xs := xs) (k := 1) (by omega)
  obtain ⟨x8, hx8, ex8⟩ := bt_get (xs := xs) (k := 8) (by omega)
  obtain ⟨x9, hx9, ex9⟩ := bt_get (xs := xs) (k := 9) (by omega)
  obtain ⟨b, o, rfl⟩ := rd_addr8 hrd (by omega)
  have hbl : b < w.heap.size := World.block_lt_of_cell? w _ (rdj hrd 1 x1 hx1)
  have hbg : b ∉ [w.heap.size] := by simp; omega
  have hlo : (hdOf xs).o.length = szN xs - 20 := by
    show ((xs.take (szN xs)).drop 20).length = _
    rw [List.length_drop, List.length_take]; omega
  have hF0 : Fr [] w (w.alloc (.cells #[.int .u8 0, .int .u16 0, .bool false, .bool false, .int .i64 0, .int .u8 0, .int .u8 0, .int .u32 0, .int .u32 0, .slice none 0 0] 30)) := (Fr.refl _ _).alloc _
  have cW6 := word_lit (some ⟨b, o, none⟩) n c xs 6 6 rfl _ hl (hrd.fr hF0 (by simp)) (by omega) hn
  have rdW : ∀ w1 (hF : Fr [] w w1) W, HSt w1 w.heap.size b o x1 x8 x9 W → Rd W (some ⟨b, o, none⟩) (B8 xs) := fun w1 hF W hS => (hrd.fr hF (by simp)).fr hS.1 (by intro ad h; injection h with h; subst h; exact hbg)
  have cW4 := fun w1 (hF : Fr [] w w1) W (hS : HSt w1 w.heap.size b o x1 x8 x9 W) => word_lit (some ⟨b, o, none⟩) n c xs 4 4 rfl W hl (rdW w1 hF W hS) (by omega) hn
  have cL12 := fun w1 (hF : Fr [] w w1) W (hS : HSt w1 w.heap.size b o x1 x8 x9 W) => long_any (some ⟨b, o, none⟩) n c xs 12 12 rfl W hl (rdW w1 hF W hS) (by omega) hn
  have cL16 := fun w1 (hF : Fr [] w w1) W (hS : HSt w1 w.heap.size b o x1 x8 x9 W) => long_any (some ⟨b, o, none⟩) n c xs 16 16 rfl W hl (rdW w1 hF W hS) (by omega) hn
  have cSz := fun w1 (hF : Fr [] w w1) W (hS : HSt w1 w.heap.size b o x1 x8 x9 W) => size_any (some ⟨b, o, none⟩) n c xs W hl (rdW w1 hF W hS) (by omega)
  have rdO : ∀ w1 (hF : Fr [] w w1) W, HSt w1 w.heap.size b o x1 x8 x9 W → Rd W (some ⟨b, o + 20, none⟩) (B8 (hdOf xs).o) := fun w1 hF W hS => by
    have h1 := (rdW w1 hF W hS).take (szN xs)
    rw [B8_take] at h1
    exact rd_drop' h1 20
  have rdO2 : ∀ w1 (hF : Fr [] w w1) W, HSt w1 w.heap.size b o x1 x8 x9 W → c = 20 → Rd W (some ⟨b, o, none⟩) (B8 (hdOf xs).o) := fun w1 hF W hS e => by
    have h0 : (hdOf xs).o = [] := List.eq_nil_of_length_eq_zero (by omega)
    rw [h0]; exact Rd.nil _ _
  have lv := wd_lt xs 6
  have a1 := and_ne (v := wd xs 6) 14 16384 rfl lv (by decide)
  have a2 := and_ne (v := wd xs 6) 13 8192 rfl lv (by decide)
  have a3 := and_low lv
  obtain ⟨q, hq⟩ : ∃ q, q = wd xs 6 % 8192 := ⟨_, rfl⟩
  have hql : q < 8192 := by omega
  rw [← hq] at a3
  have w1 : IntKind.i64.wrap (q : Int) = q := IntWalk.i64_in _ (by omega)
  have w2 : IntKind.i64.wrap ((q : Int) * 8) = (q : Int) * 8 := IntWalk.i64_in _ (by omega)
  have b1 : (0 : Int) ≤ 1 ∧ (1 : Int) < (n : Int) := by omega
  have b8 : (0 : Int) ≤ 8 ∧ (8 : Int) < (n : Int) := by omega
  have b9 : (0 : Int) ≤ 9 ∧ (9 : Int) < (n : Int) := by omega
  have hc1 := rdj hrd 1 x1 hx1
  have hc8 := rdj hrd 8 x8 hx8
  have hc9 := rdj hrd 9 x9 hx9
  have HE : Hid (hdOf xs = { tos := x1.toNat, id := wd xs 4, df := decide (wd xs 6 / 2 ^ 14 % 2 = 1), mf := decide (wd xs 6 / 2 ^ 13 % 2 = 1), off := (q : Int) * 8, ttl := x8.toNat, proto := x9.toNat, src := lg xs 12, dst := lg xs 16, o := (hdOf xs).o }) := by
    show _ = _
    unfold hdOf
    rw [ex1, ex8, ex9, hq]
    simp only [Hd.mk.injEq, true_and, and_true]
    omega
  have hlo' := Lib.hid hlo
  have HQ := Lib.hid hq
  have CW4 := Lib.hid cW4
  have CL12 := Lib.hid cL12
  have CL16 := Lib.hid cL16
  have CSZ := Lib.hid cSz
  have RDO := Lib.hid rdO
  have RDO2 := Lib.hid rdO2
  have X1 := Lib.hid hc1
  have X8 := Lib.hid hc8
  have X9 := Lib.hid hc9
  have bs1 : (0 : Int) ≤ 20 ∧ (20 : Int) ≤ (szN xs : Int) ∧ (szN xs : Int) ≤ (c : Int) := by omega
  have bs2 : (20 : Int) ≤ (szN xs : Int) := by omega
  have bs3 : (szN xs : Int) ≤ (c : Int) := by omega
  generalize hHD : hdOf xs = H at *
  generalize hSZ : szN xs = sz at *
  have HHD := Lib.hid hHD
  have HSZ := Lib.hid hSZ
  clear hHD hSZ
  clear cW4 cL12 cL16 cSz rdO rdO2 hlo hq hc1 hc8 hc9 hx1 hx8 hx9 ex1 ex8 ex9 hrd hl
  by_cases hc20 : c = 20
  · subst hc20
    obtain rfl : sz = 20 := by omega
    obtain rfl : n = 20 := by omega
    go_enter Try.func29, Try.ntmps29
    go_wp2_with fail
    refine cW6.mono ?_
    rintro e w1 ⟨rfl, hF1⟩
    have hS0 : HSt w1 w.heap.size b o x1 x8 x9 w1.drew := start_H (hF0.trans hF1) hF1 X1.out X8.out X9.out
    replace hF0 := hF0.trans hF1
    have hFr : Fr [w.heap.size] w1 w1.drew := (Fr.refl _ _).drew
    clear cW6
    go_wp2_with fail
    refine wp_region_held_drew (S := HSt w1 w.heap.size b o x1 x8 x9) (by kernel_rfl) hS0 (fun hS => ?_)
    clear hS0
    refine wpAnyH_take (i := 0) (v := ?_) rfl (by kernel_rfl) (by kernel_rfl) (by kernel_rfl) (fun _ _ _ h => h) (Or.inl ⟨by rfl, ?_⟩) hS ?_
    rotate_left 1
    · intro w hSw; obtain ⟨_, q1, q8, q9, _⟩ := hSw; go_simp; with_reducible rfl
    try simp only [Act.put, List.setIfInBounds_toArray]
    refine wpAnyH_take (i := 1) (v := ?_) rfl (by kernel_rfl) (by kernel_rfl) (by kernel_rfl) (fun _ _ _ h => h) (Or.inl ⟨by rfl, ?_⟩) hS ?_
    rotate_left 1
    · intro w hSw; obtain ⟨_, q1, q8, q9, _⟩ := hSw; go_simp; with_reducible rfl
    try simp only [Act.put]
    refine wpAnyH_take (i := 2) (v := ?_) rfl (by kernel_rfl) (by kernel_rfl) (by kernel_rfl) (fun _ _ _ h => h) (Or.inl ⟨by rfl, ?_⟩) hS ?_
    rotate_left 1
    · intro w hSw; obtain ⟨_, q1, q8, q9, _⟩ := hSw; go_simp; with_reducible rfl
    try simp only [Act.put]
    refine wpAnyH_take (i := 3) (v := ?_) rfl (by kernel_rfl) (by kernel_rfl) (by kernel_rfl) (fun _ _ _ h => h) (Or.inl ⟨by rfl, ?_⟩) hS ?_
    rotate_left 1
    · intro w hSw; obtain ⟨_, q1, q8, q9, _⟩ := hSw; go_simp; with_reducible rfl
    try simp only [Act.put]
    refine wpAnyH_take (i := 5) (v := ?_) rfl (by kernel_rfl) (by kernel_rfl) (by kernel_rfl) (fun _ _ _ h => h) (Or.inl ⟨by rfl, ?_⟩) hS ?_
    rotate_left 1
    · intro w hSw; obtain ⟨_, q1, q8, q9, _⟩ := hSw; go_simp; with_reducible rfl
    try simp only [Act.put]
    refine wpAnyH_take (i := 6) (v := ?_) rfl (by kernel_rfl) (by kernel_rfl) (by kernel_rfl) (fun _ _ _ h => h) (Or.inl ⟨by rfl, ?_⟩) hS ?_
    rotate_left 1
    · intro w hSw; obtain ⟨_, q1, q8, q9, _⟩ := hSw; go_simp; with_reducible rfl
    try simp only [Act.put]
    refine wpAnyH_take (i := 7) (v := ?_) rfl (by kernel_rfl) (by kernel_rfl) (by kernel_rfl) (fun _ _ _ h => h) (Or.inl ⟨by rfl, ?_⟩) hS ?_
    rotate_left 1
    · intro w hSw; obtain ⟨_, q1, q8, q9, _⟩ := hSw; go_simp; with_reducible rfl
    try simp only [Act.put]
    refine wpAnyH_take (i := 8) (v := ?_) rfl (by kernel_rfl) (by kernel_rfl) (by kernel_rfl) (fun _ _ _ h => h) (Or.inl ⟨by rfl, ?_⟩) hS ?_
    rotate_left 1
    · intro w hSw; obtain ⟨_, q1, q8, q9, _⟩ := hSw; go_simp; with_reducible rfl
    try simp only [Act.put]
    refine wpAnyH_take (i := 9) (v := ?_) rfl (by kernel_rfl) (by kernel_rfl) (by kernel_rfl) (fun _ _ _ h => h) (Or.inl ⟨by rfl, ?_⟩) hS ?_
    rotate_left 1
    · intro w hSw; obtain ⟨_, q1, q8, q9, _⟩ := hSw; go_simp; with_reducible rfl
    try simp only [Act.put]
    refine wpAnyH_take (i := 10) (v := ?_) rfl (by kernel_rfl) (by kernel_rfl) (by kernel_rfl) (fun _ _ _ h => h) (Or.inl ⟨by rfl, ?_⟩) hS ?_
    rotate_left 1
    · intro w hSw; obtain ⟨_, q1, q8, q9, _⟩ := hSw; go_simp; with_reducible rfl
    try simp only [Act.put]
    refine wpAnyH_take (i := 11) (v := ?_) rfl (by kernel_rfl) (by kernel_rfl) (by kernel_rfl) (fun _ _ _ h => h) (Or.inl ⟨by rfl, ?_⟩) hS ?_
    rotate_left 1
    · intro w hSw; obtain ⟨_, q1, q8, q9, _⟩ := hSw; go_simp; with_reducible rfl
    try simp only [Act.put]
    refine wpAnyH_take (i := 12) (v := ?_) rfl (by kernel_rfl) (by kernel_rfl) (by kernel_rfl) (fun _ _ _ h => h) (Or.inl ⟨by rfl, ?_⟩) hS ?_
    rotate_left 1
    · intro w hSw; obtain ⟨_, q1, q8, q9, _⟩ := hSw; go_simp; with_reducible rfl
    try simp only [Act.put]
    refine wpAnyH_take (i := 13) (v := ?_) rfl (by kernel_rfl) (by kernel_rfl) (by kernel_rfl) (fun _ _ _ h => h) (Or.inl ⟨by rfl, ?_⟩) hS ?_
    rotate_left 1
    · intro w hSw; obtain ⟨_, q1, q8, q9, _⟩ := hSw; go_simp; with_reducible rfl
    try simp only [Act.put]
    refine wpAnyH_take (i := 14) (v := ?_) rfl (by kernel_rfl) (by kernel_rfl) (by kernel_rfl) (fun _ _ _ h => h) (Or.inl ⟨by rfl, ?_⟩) hS ?_
    rotate_left 1
    · intro w hSw; obtain ⟨_, q1, q8, q9, _⟩ := hSw; go_simp; with_reducible rfl
    try simp only [Act.put]
    refine wpAnyH_take (i := 15) (v := ?_) rfl (by kernel_rfl) (by kernel_rfl) (by kernel_rfl) (fun _ _ _ h => h) (Or.inl ⟨by rfl, ?_⟩) hS ?_
    rotate_left 1
    · intro w hSw; obtain ⟨_, q1, q8, q9, _⟩ := hSw; go_simp; with_reducible rfl
    try simp only [Act.put]
    refine wpAnyH_take (i := 16) (v := ?_) rfl (by kernel_rfl) (by kernel_rfl) (by kernel_rfl) (fun _ _ _ h => h) (Or.inl ⟨by rfl, ?_⟩) hS ?_
    rotate_left 1
    · intro w hSw; obtain ⟨_, q1, q8, q9, _⟩ := hSw; go_simp; with_reducible rfl
    try simp only [Act.put]
    refine wpAnyH_take (i := 17) (v := ?_) rfl (by kernel_rfl) (by kernel_rfl) (by kernel_rfl) (fun _ _ _ h => h) (Or.inl ⟨by rfl, ?_⟩) hS ?_
    rotate_left 1
    · intro w hSw; obtain ⟨_, q1, q8, q9, _⟩ := hSw; go_simp; with_reducible rfl
    try simp only [Act.put]
    refine wpAnyH_take (i := 18) (v := ?_) rfl (by kernel_rfl) (by kernel_rfl) (by kernel_rfl) (fun _ _ _ h => h) (Or.inl ⟨by rfl, ?_⟩) hS ?_
    rotate_left 1
    · intro w hSw; obtain ⟨_, q1, q8, q9, _⟩ := hSw; go_simp; with_reducible rfl
    try simp only [Act.put]
    refine wpAnyH_take (i := 19) (v := ?_) rfl (by kernel_rfl) (by kernel_rfl) (by kernel_rfl) (fun _ _ _ h => h) (Or.inl ⟨by rfl, ?_⟩) hS ?_
    rotate_left 1
    · intro w hSw; obtain ⟨_, q1, q8, q9, _⟩ := hSw; go_simp; with_reducible rfl
    try simp only [Act.put]
    refine wpAnyH_take (i := 20) (v := ?_) rfl (by kernel_rfl) (by kernel_rfl) (by kernel_rfl) (fun _ _ _ h => h) (Or.inl ⟨by rfl, ?_⟩) hS ?_
    rotate_left 1
    · intro w hSw; obtain ⟨_, q1, q8, q9, _⟩ := hSw; go_simp; with_reducible rfl
    try simp only [Act.put]
    refine wpAnyH_take (i := 21) (v := ?_) rfl (by kernel_rfl) (by kernel_rfl) (by kernel_rfl) (fun _ _ _ h => h) (Or.inl ⟨by rfl, ?_⟩) hS ?_
    rotate_left 1
    · intro w hSw; obtain ⟨_, q1, q8, q9, _⟩ := hSw; go_simp; with_reducible rfl
    try simp only [Act.put]
    refine wpAnyH_take (i := 23) (v := ?_) rfl (by kernel_rfl) (by kernel_rfl) (by kernel_rfl) (fun _ _ _ h => h) (Or.inl ⟨by rfl, ?_⟩) hS ?_
    rotate_left 1
    · intro w hSw; obtain ⟨_, q1, q8, q9, _⟩ := hSw; go_simp; with_reducible rfl
    try simp only [Act.put]
    refine wpAnyH_take (i := 25) (v := ?_) rfl (by kernel_rfl) (by kernel_rfl) (by kernel_rfl) (fun _ _ _ h => h) (Or.inl ⟨by rfl, ?_⟩) hS ?_
    rotate_left 1
    · intro w hSw; obtain ⟨_, q1, q8, q9, _⟩ := hSw; go_simp; with_reducible rfl
    try simp only [Act.put]
    refine wpAnyH_take (i := 26) (v := ?_) rfl (by kernel_rfl) (by kernel_rfl) (by kernel_rfl) (fun _ _ _ h => h) (Or.inl ⟨by rfl, ?_⟩) hS ?_
    rotate_left 1
    · intro w hSw; obtain ⟨_, q1, q8, q9, _⟩ := hSw; go_simp; with_reducible rfl
    try simp only [Act.put]
    refine wpAnyH_ready (rs := [4]) (by kernel_rfl) (by simp) ?_
    refine AllReadyH.cons rfl (fun K hK => ?_) AllReadyH.nil
    go_simp
    refine (CW4.out w1 hF0 _ hS).mono ?_
    rintro e W' ⟨rfl, hF'⟩
    refine hK.out _ _ (keepH hF' hS) (fun hS2 => ?_)
    clear hK K
    replace hS := hS2
    clear hS2
    replace hFr := hFr.trans hF'.nil
    clear hF'
    try simp only [Act.put, List.setIfInBounds_toArray, List.set_cons_zero, List.set_cons_succ]
    refine wpAnyH_ready (rs := [22]) (by kernel_rfl) (by simp) ?_
    refine AllReadyH.cons rfl (fun K hK => ?_) AllReadyH.nil
    go_simp
    refine (CL12.out w1 hF0 _ hS).mono ?_
    rintro e W' ⟨rfl, hF'⟩
    refine hK.out _ _ (keepH hF' hS) (fun hS2 => ?_)
    clear hK K
    replace hS := hS2
    clear hS2
    replace hFr := hFr.trans hF'.nil
    clear hF'
    try simp only [Act.put, List.setIfInBounds_toArray, List.set_cons_zero, List.set_cons_succ]
    refine wpAnyH_ready (rs := [24]) (by kernel_rfl) (by simp) ?_
    refine AllReadyH.cons rfl (fun K hK => ?_) AllReadyH.nil
    go_simp
    refine (CL16.out w1 hF0 _ hS).mono ?_
    rintro e W' ⟨rfl, hF'⟩
    refine hK.out _ _ (keepH hF' hS) (fun hS2 => ?_)
    clear hK K
    replace hS := hS2
    clear hS2
    replace hFr := hFr.trans hF'.nil
    clear hF'
    try simp only [Act.put, List.setIfInBounds_toArray, List.set_cons_zero, List.set_cons_succ]
    refine wpAnyH_ready (rs := [27]) (by kernel_rfl) (by simp) ?_
    refine AllReadyH.cons rfl (fun K hK => ?_) AllReadyH.nil
    go_simp
    refine (CSZ.out w1 hF0 _ hS).mono ?_
    rintro e W' ⟨rfl, hF'⟩
    refine hK.out _ _ (keepH hF' hS) (fun hS2 => ?_)
    clear hK K
    replace hS := hS2
    clear hS2
    replace hFr := hFr.trans hF'.nil
    clear hF'
    try simp only [Act.put, List.setIfInBounds_toArray, List.set_cons_zero, List.set_cons_succ]
    refine wpAnyH_take (i := 28) (v := ?_) rfl (by kernel_rfl) (by kernel_rfl) (by kernel_rfl) (fun _ _ _ h => h) (Or.inl ⟨by rfl, ?_⟩) hS ?_
    rotate_left 1
    · intro w hSw; obtain ⟨_, q1, q8, q9, _⟩ := hSw; go_simp; with_reducible rfl
    try simp only [Act.put, List.setIfInBounds_toArray]
    have hgl := hS.2.2.2.2.1
    refine wpAnyH_ready (rs := [29]) (by kernel_rfl) (by simp) ?_
    refine AllReadyH.cons rfl (fun K hK => ?_) AllReadyH.nil
    go_simp
    refine (bclone _ _ _ H.o _ hlo'.out (RDO2.out w1 hF0 _ hS trivial) (by omega)).mono ?_
    rintro e W' ⟨A', c', rfl, ho, hF'⟩
    refine hK.out _ _ (keepH hF' hS) (fun hS2 => ?_)
    clear hK K
    replace hS := hS2
    clear hS2
    replace hFr := hFr.trans hF'.nil
    try simp only [Act.put, List.setIfInBounds_toArray, List.set_cons_zero, List.set_cons_succ]
    refine wpAnyH_take (i := 30) (v := ?_) rfl (by kernel_rfl) (by kernel_rfl) (by kernel_rfl) (fun _ _ _ h => h) (Or.inl ⟨by rfl, ?_⟩) hS ?_
    rotate_left 1
    · intro w hSw; obtain ⟨_, q1, q8, q9, _⟩ := hSw; go_simp; with_reducible rfl
    try simp only [Act.put, List.setIfInBounds_toArray]
    refine wpAnyH_ready (rs := [31]) (by kernel_rfl) (by simp) ?_
    refine AllReadyH.cons rfl (fun K hK => ?_) AllReadyH.nil
    rw [if_pos (by rfl)]
    refine wp_store_mid 30 _ _ rfl w.heap.size 0 #[.int .u8 x1.toNat, .int .u16 (wd xs 4 : Nat), .bool (decide (wd xs 6 / 16384 % 2 = 1)), .bool (decide (wd xs 6 / 8192 % 2 = 1)), .int .i64 ((q : Int) * 8), .int .u8 x8.toNat, .int .u8 x9.toNat, .int .u32 (lg xs 12 : Nat), .int .u32 (lg xs 16 : Nat), .slice A' H.o.length c'] rfl rfl hS.2.2.2.2.2.1 (by kernel_rfl) (by simp [Value.oneCell']) ?_
    have hr := World.rangeAt_setCells_same W' w.heap.size 0 [.int .u8 x1.toNat, .int .u16 (wd xs 4 : Nat), .bool (decide (wd xs 6 / 16384 % 2 = 1)), .bool (decide (wd xs 6 / 8192 % 2 = 1)), .int .i64 ((q : Int) * 8), .int .u8 x8.toNat, .int .u8 x9.toNat, .int .u32 (lg xs 12 : Nat), .int .u32 (lg xs 16 : Nat), .slice A' H.o.length c'] hS.2.2.2.2.2.1
    refine hK.out _ _ (keepSt hS _) (fun hS2 => ?_)
    clear hK K
    refine wpAnyH_done (by kernel_rfl) ?_ _
    clear hS hS2
    have r0 := hr 0 _ rfl
    have r1 := hr 1 _ rfl
    have r2 := hr 2 _ rfl
    have r3 := hr 3 _ rfl
    have r4 := hr 4 _ rfl
    have r5 := hr 5 _ rfl
    have r6 := hr 6 _ rfl
    have r7 := hr 7 _ rfl
    have r8 := hr 8 _ rfl
    have r9 := hr 9 _ rfl
    simp only [Nat.zero_add] at r0 r1 r2 r3 r4 r5 r6 r7 r8 r9
    have hFin : Fr [] w (W'.setCells w.heap.size 0 [.int .u8 x1.toNat, .int .u16 (wd xs 4 : Nat), .bool (decide (wd xs 6 / 16384 % 2 = 1)), .bool (decide (wd xs 6 / 8192 % 2 = 1)), .int .i64 ((q : Int) * 8), .int .u8 x8.toNat, .int .u8 x9.toNat, .int .u32 (lg xs 12 : Nat), .int .u32 (lg xs 16 : Nat), .slice A' H.o.length c']) := (hF0.trans2 hFr (by intro t ht; rw [List.mem_singleton] at ht; subst ht; exact .inr (Nat.le_refl _))).trans2 (fr_setCells (Fr.refl [w.heap.size] _) (.inl (by simp)) _ 0) (by intro t ht; rw [List.mem_singleton] at ht; subst ht; exact .inr (Nat.le_refl _))
    have hOw : (W'.setCells w.heap.size 0 [.int .u8 x1.toNat, .int .u16 (wd xs 4 : Nat), .bool (decide (wd xs 6 / 16384 % 2 = 1)), .bool (decide (wd xs 6 / 8192 % 2 = 1)), .int .i64 ((q : Int) * 8), .int .u8 x8.toNat, .int .u8 x9.toNat, .int .u32 (lg xs 12 : Nat), .int .u32 (lg xs 16 : Nat), .slice A' H.o.length c']).ownsRow w.heap.size 5 1 (.slice A' H.o.length c') H.o.length (B8 H.o) := own_setCells ho hgl (Nat.le_of_lt hgl) _
    generalize W'.setCells w.heap.size 0 [.int .u8 x1.toNat, .int .u16 (wd xs 4 : Nat), .bool (decide (wd xs 6 / 16384 % 2 = 1)), .bool (decide (wd xs 6 / 8192 % 2 = 1)), .int .i64 ((q : Int) * 8), .int .u8 x8.toNat, .int .u8 x9.toNat, .int .u32 (lg xs 12 : Nat), .int .u32 (lg xs 16 : Nat), .slice A' H.o.length c'] = W2 at r0 r1 r2 r3 r4 r5 r6 r7 r8 r9 hFin hOw ⊢
    clear hr ho hF' hFr hF0 hF1 X1 X8 X9 rdW
    simp only [Act.put, List.set_cons_zero, List.set_cons_succ, List.getElem_toArray, List.getElem_cons_succ, List.getElem_cons_zero]
    have HH : HV H A' (20 - 20) c' = .agg #[.int .u8 x1.toNat, .int .u16 (wd xs 4 : Nat), .bool (decide (wd xs 6 / 16384 % 2 = 1)), .bool (decide (wd xs 6 / 8192 % 2 = 1)), .int .i64 ((q : Int) * 8), .int .u8 x8.toNat, .int .u8 x9.toNat, .int .u32 (lg xs 12 : Nat), .int .u32 (lg xs 16 : Nat), .slice A' (20 - 20) c'] := by
      rw [HE.out]; rfl
    rw [hlo'.out] at r9 hOw
    go_wp2_with fail
    refine bodyPost_ret (v := .agg #[.int .u8 x1.toNat, .int .u16 (wd xs 4 : Nat), .bool (decide (wd xs 6 / 16384 % 2 = 1)), .bool (decide (wd xs 6 / 8192 % 2 = 1)), .int .i64 ((q : Int) * 8), .int .u8 x8.toNat, .int .u8 x9.toNat, .int .u32 (lg xs 12 : Nat), .int .u32 (lg xs 16 : Nat), .slice A' (20 - 20) c']) (by simp [results, Try.results29, go_sem, r0, r1, r2, r3, r4, r5, r6, r7, r8, r9]) rfl ?_
    unfold HdrP
    rw [HHD.out, HSZ.out]
    exact ⟨A', c', by rw [HH], hOw, hFin⟩
  · skip
    go_enter Try.func29, Try.ntmps29
    go_wp2_with fail
    refine cW6.mono ?_
    rintro e w1 ⟨rfl, hF1⟩
    have hS0 : HSt w1 w.heap.size b o x1 x8 x9 w1.drew := start_H (hF0.trans hF1) hF1 X1.out X8.out X9.out
    replace hF0 := hF0.trans hF1
    have hFr : Fr [w.heap.size] w1 w1.drew := (Fr.refl _ _).drew
    clear cW6
    go_wp2_with fail
    refine wp_region_held_drew (S := HSt w1 w.heap.size b o x1 x8 x9) (by kernel_rfl) hS0 (fun hS => ?_)
    clear hS0
    refine wpAnyH_take (i := 0) (v := ?_) rfl (by kernel_rfl) (by kernel_rfl) (by kernel_rfl) (fun _ _ _ h => h) (Or.inl ⟨by rfl, ?_⟩) hS ?_
    rotate_left 1
    · intro w hSw; obtain ⟨_, q1, q8, q9, _⟩ := hSw; go_simp; with_reducible rfl
    try simp only [Act.put, List.setIfInBounds_toArray]
    refine wpAnyH_take (i := 1) (v := ?_) rfl (by kernel_rfl) (by kernel_rfl) (by kernel_rfl) (fun _ _ _ h => h) (Or.inl ⟨by rfl, ?_⟩) hS ?_
    rotate_left 1
    · intro w hSw; obtain ⟨_, q1, q8, q9, _⟩ := hSw; go_simp; with_reducible rfl
    try simp only [Act.put]
    refine wpAnyH_take (i := 2) (v := ?_) rfl (by kernel_rfl) (by kernel_rfl) (by kernel_rfl) (fun _ _ _ h => h) (Or.inl ⟨by rfl, ?_⟩) hS ?_
    rotate_left 1
    · intro w hSw; obtain ⟨_, q1, q8, q9, _⟩ := hSw; go_simp; with_reducible rfl
    try simp only [Act.put]
    refine wpAnyH_take (i := 3) (v := ?_) rfl (by kernel_rfl) (by kernel_rfl) (by kernel_rfl) (fun _ _ _ h => h) (Or.inl ⟨by rfl, ?_⟩) hS ?_
    rotate_left 1
    · intro w hSw; obtain ⟨_, q1, q8, q9, _⟩ := hSw; go_simp; with_reducible rfl
    try simp only [Act.put]
    refine wpAnyH_take (i := 5) (v := ?_) rfl (by kernel_rfl) (by kernel_rfl) (by kernel_rfl) (fun _ _ _ h => h) (Or.inl ⟨by rfl, ?_⟩) hS ?_
    rotate_left 1
    · intro w hSw; obtain ⟨_, q1, q8, q9, _⟩ := hSw; go_simp; with_reducible rfl
    try simp only [Act.put]
    refine wpAnyH_take (i := 6) (v := ?_) rfl (by kernel_rfl) (by kernel_rfl) (by kernel_rfl) (fun _ _ _ h => h) (Or.inl ⟨by rfl, ?_⟩) hS ?_
    rotate_left 1
    · intro w hSw; obtain ⟨_, q1, q8, q9, _⟩ := hSw; go_simp; with_reducible rfl
    try simp only [Act.put]
    refine wpAnyH_take (i := 7) (v := ?_) rfl (by kernel_rfl) (by kernel_rfl) (by kernel_rfl) (fun _ _ _ h => h) (Or.inl ⟨by rfl, ?_⟩) hS ?_
    rotate_left 1
    · intro w hSw; obtain ⟨_, q1, q8, q9, _⟩ := hSw; go_simp; with_reducible rfl
    try simp only [Act.put]
    refine wpAnyH_take (i := 8) (v := ?_) rfl (by kernel_rfl) (by kernel_rfl) (by kernel_rfl) (fun _ _ _ h => h) (Or.inl ⟨by rfl, ?_⟩) hS ?_
    rotate_left 1
    · intro w hSw; obtain ⟨_, q1, q8, q9, _⟩ := hSw; go_simp; with_reducible rfl
    try simp only [Act.put]
    refine wpAnyH_take (i := 9) (v := ?_) rfl (by kernel_rfl) (by kernel_rfl) (by kernel_rfl) (fun _ _ _ h => h) (Or.inl ⟨by rfl, ?_⟩) hS ?_
    rotate_left 1
    · intro w hSw; obtain ⟨_, q1, q8, q9, _⟩ := hSw; go_simp; with_reducible rfl
    try simp only [Act.put]
    refine wpAnyH_take (i := 10) (v := ?_) rfl (by kernel_rfl) (by kernel_rfl) (by kernel_rfl) (fun _ _ _ h => h) (Or.inl ⟨by rfl, ?_⟩) hS ?_
    rotate_left 1
    · intro w hSw; obtain ⟨_, q1, q8, q9, _⟩ := hSw; go_simp; with_reducible rfl
    try simp only [Act.put]
    refine wpAnyH_take (i := 11) (v := ?_) rfl (by kernel_rfl) (by kernel_rfl) (by kernel_rfl) (fun _ _ _ h => h) (Or.inl ⟨by rfl, ?_⟩) hS ?_
    rotate_left 1
    · intro w hSw; obtain ⟨_, q1, q8, q9, _⟩ := hSw; go_simp; with_reducible rfl
    try simp only [Act.put]
    refine wpAnyH_take (i := 12) (v := ?_) rfl (by kernel_rfl) (by kernel_rfl) (by kernel_rfl) (fun _ _ _ h => h) (Or.inl ⟨by rfl, ?_⟩) hS ?_
    rotate_left 1
    · intro w hSw; obtain ⟨_, q1, q8, q9, _⟩ := hSw; go_simp; with_reducible rfl
    try simp only [Act.put]
    refine wpAnyH_take (i := 13) (v := ?_) rfl (by kernel_rfl) (by kernel_rfl) (by kernel_rfl) (fun _ _ _ h => h) (Or.inl ⟨by rfl, ?_⟩) hS ?_
    rotate_left 1
    · intro w hSw; obtain ⟨_, q1, q8, q9, _⟩ := hSw; go_simp; with_reducible rfl
    try simp only [Act.put]
    refine wpAnyH_take (i := 14) (v := ?_) rfl (by kernel_rfl) (by kernel_rfl) (by kernel_rfl) (fun _ _ _ h => h) (Or.inl ⟨by rfl, ?_⟩) hS ?_
    rotate_left 1
    · intro w hSw; obtain ⟨_, q1, q8, q9, _⟩ := hSw; go_simp; with_reducible rfl
    try simp only [Act.put]
    refine wpAnyH_take (i := 15) (v := ?_) rfl (by kernel_rfl) (by kernel_rfl) (by kernel_rfl) (fun _ _ _ h => h) (Or.inl ⟨by rfl, ?_⟩) hS ?_
    rotate_left 1
    · intro w hSw; obtain ⟨_, q1, q8, q9, _⟩ := hSw; go_simp; with_reducible rfl
    try simp only [Act.put]
    refine wpAnyH_take (i := 16) (v := ?_) rfl (by kernel_rfl) (by kernel_rfl) (by kernel_rfl) (fun _ _ _ h => h) (Or.inl ⟨by rfl, ?_⟩) hS ?_
    rotate_left 1
    · intro w hSw; obtain ⟨_, q1, q8, q9, _⟩ := hSw; go_simp; with_reducible rfl
    try simp only [Act.put]
    refine wpAnyH_take (i := 17) (v := ?_) rfl (by kernel_rfl) (by kernel_rfl) (by kernel_rfl) (fun _ _ _ h => h) (Or.inl ⟨by rfl, ?_⟩) hS ?_
    rotate_left 1
    · intro w hSw; obtain ⟨_, q1, q8, q9, _⟩ := hSw; go_simp; with_reducible rfl
    try simp only [Act.put]
    refine wpAnyH_take (i := 18) (v := ?_) rfl (by kernel_rfl) (by kernel_rfl) (by kernel_rfl) (fun _ _ _ h => h) (Or.inl ⟨by rfl, ?_⟩) hS ?_
    rotate_left 1
    · intro w hSw; obtain ⟨_, q1, q8, q9, _⟩ := hSw; go_simp; with_reducible rfl
    try simp only [Act.put]
    refine wpAnyH_take (i := 19) (v := ?_) rfl (by kernel_rfl) (by kernel_rfl) (by kernel_rfl) (fun _ _ _ h => h) (Or.inl ⟨by rfl, ?_⟩) hS ?_
    rotate_left 1
    · intro w hSw; obtain ⟨_, q1, q8, q9, _⟩ := hSw; go_simp; with_reducible rfl
    try simp only [Act.put]
    refine wpAnyH_take (i := 20) (v := ?_) rfl (by kernel_rfl) (by kernel_rfl) (by kernel_rfl) (fun _ _ _ h => h) (Or.inl ⟨by rfl, ?_⟩) hS ?_
    rotate_left 1
    · intro w hSw; obtain ⟨_, q1, q8, q9, _⟩ := hSw; go_simp; with_reducible rfl
    try simp only [Act.put]
    refine wpAnyH_take (i := 21) (v := ?_) rfl (by kernel_rfl) (by kernel_rfl) (by kernel_rfl) (fun _ _ _ h => h) (Or.inl ⟨by rfl, ?_⟩) hS ?_
    rotate_left 1
    · intro w hSw; obtain ⟨_, q1, q8, q9, _⟩ := hSw; go_simp; with_reducible rfl
    try simp only [Act.put]
    refine wpAnyH_take (i := 23) (v := ?_) rfl (by kernel_rfl) (by kernel_rfl) (by kernel_rfl) (fun _ _ _ h => h) (Or.inl ⟨by rfl, ?_⟩) hS ?_
    rotate_left 1
    · intro w hSw; obtain ⟨_, q1, q8, q9, _⟩ := hSw; go_simp; with_reducible rfl
    try simp only [Act.put]
    refine wpAnyH_take (i := 25) (v := ?_) rfl (by kernel_rfl) (by kernel_rfl) (by kernel_rfl) (fun _ _ _ h => h) (Or.inl ⟨by rfl, ?_⟩) hS ?_
    rotate_left 1
    · intro w hSw; obtain ⟨_, q1, q8, q9, _⟩ := hSw; go_simp; with_reducible rfl
    try simp only [Act.put]
    refine wpAnyH_take (i := 26) (v := ?_) rfl (by kernel_rfl) (by kernel_rfl) (by kernel_rfl) (fun _ _ _ h => h) (Or.inl ⟨by rfl, ?_⟩) hS ?_
    rotate_left 1
    · intro w hSw; obtain ⟨_, q1, q8, q9, _⟩ := hSw; go_simp; with_reducible rfl
    try simp only [Act.put]
    refine wpAnyH_ready (rs := [4]) (by kernel_rfl) (by simp) ?_
    refine AllReadyH.cons rfl (fun K hK => ?_) AllReadyH.nil
    go_simp
    refine (CW4.out w1 hF0 _ hS).mono ?_
    rintro e W' ⟨rfl, hF'⟩
    refine hK.out _ _ (keepH hF' hS) (fun hS2 => ?_)
    clear hK K
    replace hS := hS2
    clear hS2
    replace hFr := hFr.trans hF'.nil
    clear hF'
    try simp only [Act.put, List.setIfInBounds_toArray, List.set_cons_zero, List.set_cons_succ]
    refine wpAnyH_ready (rs := [22]) (by kernel_rfl) (by simp) ?_
    refine AllReadyH.cons rfl (fun K hK => ?_) AllReadyH.nil
    go_simp
    refine (CL12.out w1 hF0 _ hS).mono ?_
    rintro e W' ⟨rfl, hF'⟩
    refine hK.out _ _ (keepH hF' hS) (fun hS2 => ?_)
    clear hK K
    replace hS := hS2
    clear hS2
    replace hFr := hFr.trans hF'.nil
    clear hF'
    try simp only [Act.put, List.setIfInBounds_toArray, List.set_cons_zero, List.set_cons_succ]
    refine wpAnyH_ready (rs := [24]) (by kernel_rfl) (by simp) ?_
    refine AllReadyH.cons rfl (fun K hK => ?_) AllReadyH.nil
    go_simp
    refine (CL16.out w1 hF0 _ hS).mono ?_
    rintro e W' ⟨rfl, hF'⟩
    refine hK.out _ _ (keepH hF' hS) (fun hS2 => ?_)
    clear hK K
    replace hS := hS2
    clear hS2
    replace hFr := hFr.trans hF'.nil
    clear hF'
    try simp only [Act.put, List.setIfInBounds_toArray, List.set_cons_zero, List.set_cons_succ]
    refine wpAnyH_ready (rs := [27]) (by kernel_rfl) (by simp) ?_
    refine AllReadyH.cons rfl (fun K hK => ?_) AllReadyH.nil
    go_simp
    refine (CSZ.out w1 hF0 _ hS).mono ?_
    rintro e W' ⟨rfl, hF'⟩
    refine hK.out _ _ (keepH hF' hS) (fun hS2 => ?_)
    clear hK K
    replace hS := hS2
    clear hS2
    replace hFr := hFr.trans hF'.nil
    clear hF'
    try simp only [Act.put, List.setIfInBounds_toArray, List.set_cons_zero, List.set_cons_succ]
    refine wpAnyH_take (i := 28) (v := ?_) rfl (by kernel_rfl) (by kernel_rfl) (by kernel_rfl) (fun _ _ _ h => h) (Or.inl ⟨by rfl, ?_⟩) hS ?_
    rotate_left 1
    · intro w hSw; obtain ⟨_, q1, q8, q9, _⟩ := hSw; go_simp; with_reducible rfl
    try simp only [Act.put, List.setIfInBounds_toArray]
    have hgl := hS.2.2.2.2.1
    refine wpAnyH_ready (rs := [29]) (by kernel_rfl) (by simp) ?_
    refine AllReadyH.cons rfl (fun K hK => ?_) AllReadyH.nil
    go_simp
    refine (bclone _ _ _ H.o _ hlo'.out (RDO.out w1 hF0 _ hS) (by omega)).mono ?_
    rintro e W' ⟨A', c', rfl, ho, hF'⟩
    refine hK.out _ _ (keepH hF' hS) (fun hS2 => ?_)
    clear hK K
    replace hS := hS2
    clear hS2
    replace hFr := hFr.trans hF'.nil
    try simp only [Act.put, List.setIfInBounds_toArray, List.set_cons_zero, List.set_cons_succ]
    refine wpAnyH_take (i := 30) (v := ?_) rfl (by kernel_rfl) (by kernel_rfl) (by kernel_rfl) (fun _ _ _ h => h) (Or.inl ⟨by rfl, ?_⟩) hS ?_
    rotate_left 1
    · intro w hSw; obtain ⟨_, q1, q8, q9, _⟩ := hSw; go_simp; with_reducible rfl
    try simp only [Act.put, List.setIfInBounds_toArray]
    refine wpAnyH_ready (rs := [31]) (by kernel_rfl) (by simp) ?_
    refine AllReadyH.cons rfl (fun K hK => ?_) AllReadyH.nil
    rw [if_pos (by rfl)]
    refine wp_store_mid 30 _ _ rfl w.heap.size 0 #[.int .u8 x1.toNat, .int .u16 (wd xs 4 : Nat), .bool (decide (wd xs 6 / 16384 % 2 = 1)), .bool (decide (wd xs 6 / 8192 % 2 = 1)), .int .i64 ((q : Int) * 8), .int .u8 x8.toNat, .int .u8 x9.toNat, .int .u32 (lg xs 12 : Nat), .int .u32 (lg xs 16 : Nat), .slice A' H.o.length c'] rfl rfl hS.2.2.2.2.2.1 (by kernel_rfl) (by simp [Value.oneCell']) ?_
    have hr := World.rangeAt_setCells_same W' w.heap.size 0 [.int .u8 x1.toNat, .int .u16 (wd xs 4 : Nat), .bool (decide (wd xs 6 / 16384 % 2 = 1)), .bool (decide (wd xs 6 / 8192 % 2 = 1)), .int .i64 ((q : Int) * 8), .int .u8 x8.toNat, .int .u8 x9.toNat, .int .u32 (lg xs 12 : Nat), .int .u32 (lg xs 16 : Nat), .slice A' H.o.length c'] hS.2.2.2.2.2.1
    refine hK.out _ _ (keepSt hS _) (fun hS2 => ?_)
    clear hK K
    refine wpAnyH_done (by kernel_rfl) ?_ _
    clear hS hS2
    have r0 := hr 0 _ rfl
    have r1 := hr 1 _ rfl
    have r2 := hr 2 _ rfl
    have r3 := hr 3 _ rfl
    have r4 := hr 4 _ rfl
    have r5 := hr 5 _ rfl
    have r6 := hr 6 _ rfl
    have r7 := hr 7 _ rfl
    have r8 := hr 8 _ rfl
    have r9 := hr 9 _ rfl
    simp only [Nat.zero_add] at r0 r1 r2 r3 r4 r5 r6 r7 r8 r9
    have hFin : Fr [] w (W'.setCells w.heap.size 0 [.int .u8 x1.toNat, .int .u16 (wd xs 4 : Nat), .bool (decide (wd xs 6 / 16384 % 2 = 1)), .bool (decide (wd xs 6 / 8192 % 2 = 1)), .int .i64 ((q : Int) * 8), .int .u8 x8.toNat, .int .u8 x9.toNat, .int .u32 (lg xs 12 : Nat), .int .u32 (lg xs 16 : Nat), .slice A' H.o.length c']) := (hF0.trans2 hFr (by intro t ht; rw [List.mem_singleton] at ht; subst ht; exact .inr (Nat.le_refl _))).trans2 (fr_setCells (Fr.refl [w.heap.size] _) (.inl (by simp)) _ 0) (by intro t ht; rw [List.mem_singleton] at ht; subst ht; exact .inr (Nat.le_refl _))
    have hOw : (W'.setCells w.heap.size 0 [.int .u8 x1.toNat, .int .u16 (wd xs 4 : Nat), .bool (decide (wd xs 6 / 16384 % 2 = 1)), .bool (decide (wd xs 6 / 8192 % 2 = 1)), .int .i64 ((q : Int) * 8), .int .u8 x8.toNat, .int .u8 x9.toNat, .int .u32 (lg xs 12 : Nat), .int .u32 (lg xs 16 : Nat), .slice A' H.o.length c']).ownsRow w.heap.size 5 1 (.slice A' H.o.length c') H.o.length (B8 H.o) := own_setCells ho hgl (Nat.le_of_lt hgl) _
    generalize W'.setCells w.heap.size 0 [.int .u8 x1.toNat, .int .u16 (wd xs 4 : Nat), .bool (decide (wd xs 6 / 16384 % 2 = 1)), .bool (decide (wd xs 6 / 8192 % 2 = 1)), .int .i64 ((q : Int) * 8), .int .u8 x8.toNat, .int .u8 x9.toNat, .int .u32 (lg xs 12 : Nat), .int .u32 (lg xs 16 : Nat), .slice A' H.o.length c'] = W2 at r0 r1 r2 r3 r4 r5 r6 r7 r8 r9 hFin hOw ⊢
    clear hr ho hF' hFr hF0 hF1 X1 X8 X9 rdW
    simp only [Act.put, List.set_cons_zero, List.set_cons_succ, List.getElem_toArray, List.getElem_cons_succ, List.getElem_cons_zero]
    have HH : HV H A' (sz - 20) c' = .agg #[.int .u8 x1.toNat, .int .u16 (wd xs 4 : Nat), .bool (decide (wd xs 6 / 16384 % 2 = 1)), .bool (decide (wd xs 6 / 8192 % 2 = 1)), .int .i64 ((q : Int) * 8), .int .u8 x8.toNat, .int .u8 x9.toNat, .int .u32 (lg xs 12 : Nat), .int .u32 (lg xs 16 : Nat), .slice A' (sz - 20) c'] := by
      rw [HE.out]; rfl
    rw [hlo'.out] at r9 hOw
    go_wp2_with fail
    refine bodyPost_ret (v := .agg #[.int .u8 x1.toNat, .int .u16 (wd xs 4 : Nat), .bool (decide (wd xs 6 / 16384 % 2 = 1)), .bool (decide (wd xs 6 / 8192 % 2 = 1)), .int .i64 ((q : Int) * 8), .int .u8 x8.toNat, .int .u8 x9.toNat, .int .u32 (lg xs 12 : Nat), .int .u32 (lg xs 16 : Nat), .slice A' (sz - 20) c']) (by simp [results, Try.results29, go_sem, r0, r1, r2, r3, r4, r5, r6, r7, r8, r9]) rfl ?_
    unfold HdrP
    rw [HHD.out, HSZ.out]
    exact ⟨A', c', by rw [HH], hOw, hFin⟩
end Go.Proofs.Ytjpcfphmejenoaa
