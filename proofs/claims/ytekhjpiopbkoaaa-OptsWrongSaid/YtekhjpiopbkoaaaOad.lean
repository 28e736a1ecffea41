/- addresses: the numbers of four bytes each, in their order. -/
import Derived.Test.YtekhjpiopbkoaaaOrr
import Derived.Test.YtekhjpiopbkoaaaOrx
namespace Go.Proofs.Ytekhjpiopbkoaaa
open Go.RowKit Go.Shelf
set_option linter.unusedVariables false
set_option maxRecDepth 100000
attribute [local go_sem] Oper.semAt_some

/-- The number of the four bytes from place 4 * j. -/
def num4 (xs : List UInt8) (j : Nat) : Nat := (xs.getD (j * 4) 0).toNat * 16777216 + (xs.getD (j * 4 + 1) 0).toNat * 65536 + (xs.getD (j * 4 + 2) 0).toNat * 256 + (xs.getD (j * 4 + 3) 0).toNat
def C32 (xs : List UInt8) (i : Nat) : List Value := (List.range i).map fun j => .int .u32 (num4 xs j : Nat)
theorem add_at (b o a : Nat) : Addr.add ⟨b, o, none⟩ a = ⟨b, o + a, none⟩ := by
  unfold Addr.add
  split <;> simp_all
theorem join32 (i : Nat) (a b : Nat) {A B : Int} (hA : A = a) (hB : B = b) (ha : a % 2 ^ i = 0) (hb : b < 2 ^ i) (h : a + b < 4294967296) : bits BinOp.or IntKind.u32 A B = (a + b : Nat) := by
  subst hA hB
  rw [u32_or_nat a b (by omega) (by omega), nat_join i a b ha hb]
theorem wrap32 {x : Nat} (h : x < 4294967296) : IntKind.u32.wrap (x : Int) = x := by
  simp only [IntKind.wrap, IntKind.bits, IntKind.signed, Bool.false_and, Bool.false_eq_true, if_false]
  omega
theorem or4 (x0 x1 x2 x3 : Nat) (h0 : x0 < 256) (h1 : x1 < 256) (h2 : x2 < 256) (h3 : x3 < 256) :
    bits .or .u32 (bits .or .u32 (bits .or .u32 (IntKind.u32.wrap (IntKind.u32.wrap (x0 : Int) * 16777216)) (IntKind.u32.wrap (IntKind.u32.wrap (x1 : Int) * 65536))) (IntKind.u32.wrap (IntKind.u32.wrap (x2 : Int) * 256))) (IntKind.u32.wrap (x3 : Int)) = ((x0 * 16777216 + x1 * 65536 + x2 * 256 + x3 : Nat) : Int) := by
  rw [wrap32 (x := x0) (by omega), wrap32 (x := x1) (by omega), wrap32 (x := x2) (by omega), wrap32 (x := x3) (by omega)]
  rw [show (x0 : Int) * 16777216 = ((x0 * 16777216 : Nat) : Int) by omega, show (x1 : Int) * 65536 = ((x1 * 65536 : Nat) : Int) by omega, show (x2 : Int) * 256 = ((x2 * 256 : Nat) : Int) by omega]
  rw [wrap32 (x := x0 * 16777216) (by omega), wrap32 (x := x1 * 65536) (by omega), wrap32 (x := x2 * 256) (by omega)]
  rw [join32 24 (x0 * 16777216) (x1 * 65536) rfl rfl (by omega) (by omega) (by omega)]
  rw [join32 16 (x0 * 16777216 + x1 * 65536) (x2 * 256) rfl rfl (by omega) (by omega) (by omega)]
  exact join32 8 (x0 * 16777216 + x1 * 65536 + x2 * 256) x3 rfl rfl (by omega) (by omega) (by omega)
theorem ainfo32 : (Try.prog.info? 44).map (fun i => (i.zero, i.size, i.bytes)) = some (some (.int .u32 0), 1, 4) := by kernel_rfl
theorem ael32 : El Try.prog 39 44 1 4 := .of (z := .int .u32 0) Try.underlying39 ainfo32 rfl (by decide)
theorem C32_succ (xs : List UInt8) (i : Nat) : C32 xs (i + 1) = C32 xs i ++ [.int .u32 (num4 xs i : Nat)] := by simp [C32, List.range_succ]
/-- What is known between two rounds. -/
structure IAd (w00 : World) (R : Loop) (A0 : Option Addr) (n c : Nat) (xs : List UInt8) (i : Nat) (W : World) : Prop where
  b0 : ∃ v, W.heap[w00.heap.size]? = some (.cells #[v] 39 (0, 0)) ∧ W.ownsRow (w00.heap.size + 5) 44 1 v i (C32 xs i)
  bs : W.heap[w00.heap.size + 1]? = some (.cells #[.slice A0 n c] 27 (0, 0))
  bn : W.heap[w00.heap.size + 2]? = some (.cells #[.int .i64 4] 3 (0, 0))
  hd : W.heap[w00.heap.size + 3]? = some (.deferred (some []))
  hl : W.heap[w00.heap.size + 4]? = some (.loop R)
  fr : Fr [] w00 W
  sz : w00.heap.size + 5 ≤ W.heap.size
theorem IAd.fr' {w00 : World} {R : Loop} {A0 : Option Addr} {n c : Nat} {xs : List UInt8} {i : Nat} {W W' : World} (hI : IAd w00 R A0 n c xs i W) (hF : Fr [] W W') : IAd w00 R A0 n c xs i W' := by
  obtain ⟨⟨v, b0, ho⟩, bs, bn, hd, hl, fr, sz⟩ := hI
  exact ⟨⟨v, hF.blk b0 (by simp), hF.own ho (by simp)⟩, hF.blk bs (by simp), hF.blk bn (by simp), hF.blk hd (by simp), hF.blk hl (by simp), fr.trans hF, Nat.le_trans sz hF.size⟩
theorem res29_any (tm : Array Value) (W : World) (v : Value) (h2 : tm.getD 2 undef = v) :
    (results Try.f29 tm).run Try.prog W = .ok v W := by
  have e : Try.f29.results = #[.tmp 2] := rfl
  have h : tm[2]?.getD undef = v := by simpa using h2
  simp only [results, e]
  simp [h]
set_option maxHeartbeats 4000000 in
theorem addresses_any (A0 : Option Addr) (b o n c q : Nat) (hA0 : 0 < n → A0 = some ⟨b, o, none⟩) (xs : List UInt8) (hl : xs.length = n) (hn : n = q * 4) (hnc : n ≤ c) (hc : c ≤ 9223372036854775807) (hn47 : n ≤ 40) (w : World) (hrd : Rd w (some ⟨b, o, none⟩) (B8 xs)) :
    Calls Try.prog 29 #[.slice A0 n c] w fun e w' => Fr [] w w' ∧ ∃ A' c', e = .returned (.slice A' q c') ∧ w'.ownsRow w.heap.size 44 1 (.slice A' q c') q (C32 xs q) := by
  refine (callsIn_wide (n := 5)).1 ?_
  have HN := Lib.hid hn
  clear hn
  refine callsIn_of_wp_marks Try.func29 rfl trivial ?_ rfl
  simp only [Try.ntmps29, List.size_toArray, List.length_cons, List.length_nil, Nat.reduceAdd, Nat.reduceSub, Array.replicate_succ, Array.replicate_zero, List.push_toArray, List.append_toArray, List.nil_append, List.cons_append]
  gi_wp2_with fail
  refine ⟨trivial, ?_⟩
  refine (callsIn_wide.2 (chunk_any A0 n c _)).mono ?_
  rintro e w2 ⟨rfl, rfl⟩
  have hb0 : (((w.alloc (.cells #[.slice none 0 0] 39)).alloc (.cells #[.slice A0 n c] 27)).alloc (.cells #[.int .i64 4] 3)).heap[w.heap.size]? = some (.cells #[.slice none 0 0] 39 (0, 0)) := (((Fr.refl [] _).alloc _).alloc _).blk (heap_alloc_new w _) (by simp)
  have hb1 : (((w.alloc (.cells #[.slice none 0 0] 39)).alloc (.cells #[.slice A0 n c] 27)).alloc (.cells #[.int .i64 4] 3)).heap[w.heap.size + 1]? = some (.cells #[.slice A0 n c] 27 (0, 0)) := by
    have h := heap_alloc_new (w.alloc (.cells #[.slice none 0 0] 39)) (.cells #[.slice A0 n c] 27)
    rw [World.size_alloc] at h
    exact ((Fr.refl [] _).alloc _).blk h (by simp)
  have hb2 : (((w.alloc (.cells #[.slice none 0 0] 39)).alloc (.cells #[.slice A0 n c] 27)).alloc (.cells #[.int .i64 4] 3)).heap[w.heap.size + 2]? = some (.cells #[.int .i64 4] 3 (0, 0)) := by
    have h := heap_alloc_new ((w.alloc (.cells #[.slice none 0 0] 39)).alloc (.cells #[.slice A0 n c] 27)) (.cells #[.int .i64 4] 3)
    rw [World.size_alloc, World.size_alloc] at h
    exact h
  have hFB : Fr [] w (((w.alloc (.cells #[.slice none 0 0] 39)).alloc (.cells #[.slice A0 n c] 27)).alloc (.cells #[.int .i64 4] 3)) := (((Fr.refl [] w).alloc _).alloc _).alloc _
  have hsB : (((w.alloc (.cells #[.slice none 0 0] 39)).alloc (.cells #[.slice A0 n c] 27)).alloc (.cells #[.int .i64 4] 3)).heap.size = w.heap.size + 3 := by simp
  rw [World.size_alloc]
  generalize (((w.alloc (.cells #[.slice none 0 0] 39)).alloc (.cells #[.slice A0 n c] 27)).alloc (.cells #[.int .i64 4] 3)) = wE at *
  have HB0 := Lib.hid hb0
  have HB1 := Lib.hid hb1
  have HB2 := Lib.hid hb2
  have HFB := Lib.hid hFB
  have HSB := Lib.hid hsB
  clear hb0 hb1 hb2 hFB hsB
  simp only [Nat.add_assoc, Nat.reduceAdd] at *
  gi_wp2_with fail
  have gb0 := HB0.out
  have gb1 := HB1.out
  have gb2 := HB2.out
  have gfr := HFB.out
  have gsz := HSB.out
  clear HB0 HB1 HB2 HFB HSB
  refine wpIn_rangeFunc ?_
  intro fn hfnn
  refine ⟨_, _, _, { target := .fn (.func 52) #[.pointer (some ⟨w.heap.size + 1, 0, none⟩), .pointer (some ⟨w.heap.size + 2, 0, none⟩)], args := #[.func (.yield (wE.heap.size + 1)) #[] #[]] }, ?wa, 52, #[.func (.yield (wE.heap.size + 1)) #[] #[], .pointer (some ⟨w.heap.size + 1, 0, none⟩), .pointer (some ⟨w.heap.size + 2, 0, none⟩)], ?wb, run_enterLoop_outer _ _ _ _ _, ?ha, ?hb, ?hc, fun _ => by decide, ?_⟩
  case ha =>
    have ht : ∀ W, (resolve (Act.eval { tmps := #[.slice A0 n c, undef, .slice none 0 0, .pointer (some ⟨w.heap.size, 0, none⟩), undef, .slice A0 n c, .func (.func 52) #[] #[.pointer (some ⟨w.heap.size + 1, 0, none⟩), .pointer (some ⟨w.heap.size + 2, 0, none⟩)], undef, undef, undef, undef, undef, undef, undef, undef, undef, undef, undef, undef, undef, undef, undef, undef, undef, undef, undef, undef, undef, undef, undef, undef, undef, undef, undef], defers := [] }) (rangeCall (.tmp 6) (wE.heap.size + 1)) 0).run Try.prog W = .ok { target := .fn (.func 52) #[.pointer (some ⟨w.heap.size + 1, 0, none⟩), .pointer (some ⟨w.heap.size + 2, 0, none⟩)], args := #[.func (.yield (wE.heap.size + 1)) #[] #[]] } W := fun W => by
      simp only [resolve]
      simp [go_sem]
    exact ht _
  case hb => intro f' hf'; trivial
  case hc =>
    have ht : ∀ W, (invoke (.fn (.func 52) #[.pointer (some ⟨w.heap.size + 1, 0, none⟩), .pointer (some ⟨w.heap.size + 2, 0, none⟩)]) #[.func (.yield (wE.heap.size + 1)) #[] #[]]).run Try.prog W = .ok (.enter 52 #[.func (.yield (wE.heap.size + 1)) #[] #[], .pointer (some ⟨w.heap.size + 1, 0, none⟩), .pointer (some ⟨w.heap.size + 2, 0, none⟩)]) W := fun W => by
      simp [invoke, go_sem]
    exact ht _
  generalize hRec : (Loop.mk _ _ _ _ _ _ _ _) = R
  have hl1 : ((wE.alloc (.deferred (some []))).alloc (.loop R)).heap[w.heap.size + 4]? = some (.loop R) := by
    have h1 : (wE.alloc (.deferred (some []))).heap.size = w.heap.size + 4 := by rw [World.size_alloc, gsz]
    rw [← h1]; exact heap_alloc_new _ _
  have hd1 : ((wE.alloc (.deferred (some []))).alloc (.loop R)).heap[w.heap.size + 3]? = some (.deferred (some [])) := by
    rw [← gsz]
    exact ((Fr.refl [] _).alloc _).blk (heap_alloc_new _ _) (by simp)
  have hF1 : Fr [] wE ((wE.alloc (.deferred (some []))).alloc (.loop R)) := ((Fr.refl _ _).alloc _).alloc _
  have hs1 : ((wE.alloc (.deferred (some []))).alloc (.loop R)).heap.size = w.heap.size + 5 := by rw [World.size_alloc, World.size_alloc, gsz]
  generalize (wE.alloc (.deferred (some []))).alloc (.loop R) = W1 at hl1 hd1 hF1 hs1 ⊢
  have hI1 : IAd w R A0 n c xs 0 W1 := ⟨⟨_, hF1.blk gb0 (by simp), World.ownsRow_nil _ _ _ _⟩, hF1.blk gb1 (by simp), hF1.blk gb2 (by simp), hd1, hl1, gfr.trans hF1, by omega⟩
  rw [gsz]
  simp only [Nat.add_assoc, Nat.reduceAdd] at *
  clear hl1 hd1 hF1 hs1 gb0 gb1 gb2 gfr gsz
  have hBody : ∀ (i : Nat) (W : World), IAd w R A0 n c xs i W → i < q → YieldAt Fence.wide 3 Try.prog (w.heap.size + 4) #[.slice (some ⟨b, o + i * 4, none⟩) 4 4] W fun e W' => e = .returned (.bool true) ∧ IAd w R A0 n c xs (i + 1) W' := by
    intro i W hI hi
    have hlp := hI.hl
    have hy := run_yield (P := Try.prog) (args := #[.slice (some ⟨b, o + i * 4, none⟩) 4 4]) hlp (by rw [← hRec]; rfl)
    refine ⟨_, _, _, _, hy, roundIn_of_wpIn trivial ?_⟩
    have hst : R.state = .ready := by rw [← hRec]
    have hpd : R.pending = none := by rw [← hRec]
    have hER := endRec hst hpd
    have hbeg := run_beginRound (P := Try.prog) hlp hst
    have hFp := put_fr W (w.heap.size + 4) (.loop { R with state := .busy })
    have hsz := hI.sz
    have hl2 : (W.putObj (w.heap.size + 4) (.loop { R with state := .busy })).heap[w.heap.size + 4]? = some (.loop { R with state := .busy }) := World.putObj_heap_same (by omega)
    generalize W.putObj (w.heap.size + 4) (.loop { R with state := .busy }) = A2 at hbeg hFp hl2
    obtain ⟨⟨v0, b0, ho0⟩, bs, bn, hd, _, fr, sz⟩ := hI
    have hvb0 : ∀ g, v0.ownBlock = some g → w.heap.size + 5 ≤ g := fun g hg => (ho0.lt g hg).1
    replace b0 := hFp.blk b0 (by simp)
    replace ho0 := hFp.own ho0 (fun g hg => by have := hvb0 g hg; simp; omega)
    replace bs := hFp.blk bs (by simp)
    replace bn := hFp.blk bn (by simp)
    replace hd := hFp.blk hd (by simp)
    have fr2 : Fr [] w A2 := fr.trans2 hFp (fun t ht => .inr (by simp at ht; omega))
    have sz2 : w.heap.size + 5 ≤ A2.heap.size := Nat.le_trans sz hFp.size
    have HR := Lib.hid hRec
    have HER := Lib.hid hER
    have HBEG := Lib.hid hbeg
    clear hRec hER hbeg hFp hy fr sz hst hpd hlp hI1
    have e2 := congrArg Loop.tmps HR.out
    have e3 := congrArg Loop.params HR.out
    have e4 := congrArg Loop.assign HR.out
    have e5 := congrArg Loop.body HR.out
    dsimp only at e2 e3 e4 e5
    rw [← e2, ← e3, ← e4, ← e5]
    clear e2 e3 e4 e5
    have HL2 := Lib.hid hl2
    have HB0 := Lib.hid b0
    have HO0 := Lib.hid ho0
    have HBS := Lib.hid bs
    have HBN := Lib.hid bn
    have HD := Lib.hid hd
    have HVB := Lib.hid hvb0
    clear hl2 b0 ho0 bs bn hd hvb0
    obtain ⟨PP, hPP⟩ : ∃ PP : Ending → World → Prop, PP = fun e W' => e = .returned (.bool true) ∧ IAd w R A0 n c xs (i + 1) W' := ⟨_, rfl⟩
    rw [← hPP]
    have HPP := Lib.hid hPP
    clear hPP
    simp only [Array.zip]
    gi_wp2_with fail
    refine ⟨_, HBEG.out, ?_⟩
    clear HBEG
    gi_wp2_with fail
    have hbw : b < w.heap.size := by
      obtain ⟨_, e, hc0⟩ := hrd 0 (.int .u8 (xs[0]'(by have := HN.out; omega)).toNat) (by rw [B8_get, List.getElem?_eq_getElem (by have := HN.out; omega)]; rfl)
      cases e
      exact World.block_lt_of_cell? w _ hc0
    have hq : ∀ k, k < 4 → ∃ x : Nat, x < 256 ∧ (xs.getD (i * 4 + k) 0).toNat = x ∧ ∀ W', Fr [] w W' → W'.cell? ⟨b, o + i * 4 + k, none⟩ = some (.int .u8 x) := by
      intro k hk
      have hlt : i * 4 + k < xs.length := by have := HN.out; omega
      refine ⟨(xs[i * 4 + k]).toNat, UInt8.toNat_lt _, ?_, fun W' hW' => ?_⟩
      · simp [List.getD, hlt]
      · have h := (hrd.fr hW' (by simp)).get (j := i * 4 + k) (u := .int .u8 (xs[i * 4 + k]).toNat) (by rw [B8_get, List.getElem?_eq_getElem hlt]; rfl)
        rw [add_at, ← Nat.add_assoc] at h
        exact h
    obtain ⟨x0, hx0, g0, q0⟩ := hq 0 (by decide)
    obtain ⟨x1, hx1, g1, q1⟩ := hq 1 (by decide)
    obtain ⟨x2, hx2, g2, q2⟩ := hq 2 (by decide)
    obtain ⟨x3, hx3, g3, q3⟩ := hq 3 (by decide)
    clear hq
    simp only [Nat.add_zero] at q0
    have HG := Lib.hid (And.intro g0 (And.intro g1 (And.intro g2 g3)))
    clear g0 g1 g2 g3
    obtain ⟨p, hp⟩ : ∃ p, p = o + i * 4 := ⟨_, rfl⟩
    rw [← hp] at q0 q1 q2 q3 ⊢
    obtain ⟨S, hSd⟩ : ∃ S : World → Prop, S = fun W' => Fr [] w W' ∧ W'.cell? ⟨b, p, none⟩ = some (.int .u8 x0) ∧ W'.cell? ⟨b, p + 1, none⟩ = some (.int .u8 x1) ∧ W'.cell? ⟨b, p + 2, none⟩ = some (.int .u8 x2) ∧ W'.cell? ⟨b, p + 3, none⟩ = some (.int .u8 x3) := ⟨_, rfl⟩
    have hSS : ∀ W', Fr [] w W' → S W' := fun W' h => by rw [hSd]; exact ⟨h, q0 _ h, q1 _ h, q2 _ h, q3 _ h⟩
    have HSS := Lib.hid hSS
    have HSD := Lib.hid hSd
    have hS0 : S A2.drew := hSS _ fr2.drew
    clear q0 q1 q2 q3 hSS hp
    refine region_round_held rfl (by kernel_rfl) (by kernel_rfl) S (fun a w' => Exit.inBlock 1 (roundPost Try.prog (w.heap.size + 4) PP) .normal a w') (fun a w' h => h) hS0 (fun hS => ?_)
    clear hS0
    subst hSd
    refine wpAnyH_take (i := 1) (v := ?_) rfl (by kernel_rfl) (by kernel_rfl) (by kernel_rfl) (fun _ _ _ h => by cases h.1) (Or.inl ⟨by rfl, ?_⟩) hS ?_
    rotate_left 1
    · intro w' hSw; obtain ⟨_, q0, q1, q2, q3⟩ := hSw; go_simp; with_reducible rfl
    try simp only [Act.put, List.getElem_toArray, List.getElem_cons_succ, List.getElem_cons_zero, List.setIfInBounds_toArray, List.set_cons_zero, List.set_cons_succ]
    refine wpAnyH_take (i := 2) (v := ?_) rfl (by kernel_rfl) (by kernel_rfl) (by kernel_rfl) (fun _ _ _ h => by cases h.1) (Or.inl ⟨by rfl, ?_⟩) hS ?_
    rotate_left 1
    · intro w' hSw; obtain ⟨_, q0, q1, q2, q3⟩ := hSw; go_simp; with_reducible rfl
    try simp only [Act.put, List.getElem_toArray, List.getElem_cons_succ, List.getElem_cons_zero, List.setIfInBounds_toArray, List.set_cons_zero, List.set_cons_succ]
    refine wpAnyH_take (i := 3) (v := ?_) rfl (by kernel_rfl) (by kernel_rfl) (by kernel_rfl) (fun _ _ _ h => by cases h.1) (Or.inl ⟨by rfl, ?_⟩) hS ?_
    rotate_left 1
    · intro w' hSw; obtain ⟨_, q0, q1, q2, q3⟩ := hSw; go_simp; with_reducible rfl
    try simp only [Act.put, List.getElem_toArray, List.getElem_cons_succ, List.getElem_cons_zero, List.setIfInBounds_toArray, List.set_cons_zero, List.set_cons_succ]
    refine wpAnyH_take (i := 4) (v := ?_) rfl (by kernel_rfl) (by kernel_rfl) (by kernel_rfl) (fun _ _ _ h => by cases h.1) (Or.inl ⟨by rfl, ?_⟩) hS ?_
    rotate_left 1
    · intro w' hSw; obtain ⟨_, q0, q1, q2, q3⟩ := hSw; go_simp; with_reducible rfl
    try simp only [Act.put, List.getElem_toArray, List.getElem_cons_succ, List.getElem_cons_zero, List.setIfInBounds_toArray, List.set_cons_zero, List.set_cons_succ]
    refine wpAnyH_take (i := 5) (v := ?_) rfl (by kernel_rfl) (by kernel_rfl) (by kernel_rfl) (fun _ _ _ h => by cases h.1) (Or.inl ⟨by rfl, ?_⟩) hS ?_
    rotate_left 1
    · intro w' hSw; obtain ⟨_, q0, q1, q2, q3⟩ := hSw; go_simp; with_reducible rfl
    try simp only [Act.put, List.getElem_toArray, List.getElem_cons_succ, List.getElem_cons_zero, List.setIfInBounds_toArray, List.set_cons_zero, List.set_cons_succ]
    refine wpAnyH_take (i := 6) (v := ?_) rfl (by kernel_rfl) (by kernel_rfl) (by kernel_rfl) (fun _ _ _ h => by cases h.1) (Or.inl ⟨by rfl, ?_⟩) hS ?_
    rotate_left 1
    · intro w' hSw; obtain ⟨_, q0, q1, q2, q3⟩ := hSw; go_simp; with_reducible rfl
    try simp only [Act.put, List.getElem_toArray, List.getElem_cons_succ, List.getElem_cons_zero, List.setIfInBounds_toArray, List.set_cons_zero, List.set_cons_succ]
    refine wpAnyH_take (i := 7) (v := ?_) rfl (by kernel_rfl) (by kernel_rfl) (by kernel_rfl) (fun _ _ _ h => by cases h.1) (Or.inl ⟨by rfl, ?_⟩) hS ?_
    rotate_left 1
    · intro w' hSw; obtain ⟨_, q0, q1, q2, q3⟩ := hSw; go_simp; with_reducible rfl
    try simp only [Act.put, List.getElem_toArray, List.getElem_cons_succ, List.getElem_cons_zero, List.setIfInBounds_toArray, List.set_cons_zero, List.set_cons_succ]
    refine wpAnyH_take (i := 8) (v := ?_) rfl (by kernel_rfl) (by kernel_rfl) (by kernel_rfl) (fun _ _ _ h => by cases h.1) (Or.inl ⟨by rfl, ?_⟩) hS ?_
    rotate_left 1
    · intro w' hSw; obtain ⟨_, q0, q1, q2, q3⟩ := hSw; go_simp; with_reducible rfl
    try simp only [Act.put, List.getElem_toArray, List.getElem_cons_succ, List.getElem_cons_zero, List.setIfInBounds_toArray, List.set_cons_zero, List.set_cons_succ]
    refine wpAnyH_take (i := 9) (v := ?_) rfl (by kernel_rfl) (by kernel_rfl) (by kernel_rfl) (fun _ _ _ h => by cases h.1) (Or.inl ⟨by rfl, ?_⟩) hS ?_
    rotate_left 1
    · intro w' hSw; obtain ⟨_, q0, q1, q2, q3⟩ := hSw; go_simp; with_reducible rfl
    try simp only [Act.put, List.getElem_toArray, List.getElem_cons_succ, List.getElem_cons_zero, List.setIfInBounds_toArray, List.set_cons_zero, List.set_cons_succ]
    refine wpAnyH_take (i := 10) (v := ?_) rfl (by kernel_rfl) (by kernel_rfl) (by kernel_rfl) (fun _ _ _ h => by cases h.1) (Or.inl ⟨by rfl, ?_⟩) hS ?_
    rotate_left 1
    · intro w' hSw; obtain ⟨_, q0, q1, q2, q3⟩ := hSw; go_simp; with_reducible rfl
    try simp only [Act.put, List.getElem_toArray, List.getElem_cons_succ, List.getElem_cons_zero, List.setIfInBounds_toArray, List.set_cons_zero, List.set_cons_succ]
    refine wpAnyH_take (i := 11) (v := ?_) rfl (by kernel_rfl) (by kernel_rfl) (by kernel_rfl) (fun _ _ _ h => by cases h.1) (Or.inl ⟨by rfl, ?_⟩) hS ?_
    rotate_left 1
    · intro w' hSw; obtain ⟨_, q0, q1, q2, q3⟩ := hSw; go_simp; with_reducible rfl
    try simp only [Act.put, List.getElem_toArray, List.getElem_cons_succ, List.getElem_cons_zero, List.setIfInBounds_toArray, List.set_cons_zero, List.set_cons_succ]
    refine wpAnyH_take (i := 12) (v := ?_) rfl (by kernel_rfl) (by kernel_rfl) (by kernel_rfl) (fun _ _ _ h => by cases h.1) (Or.inl ⟨by rfl, ?_⟩) hS ?_
    rotate_left 1
    · intro w' hSw; obtain ⟨_, q0, q1, q2, q3⟩ := hSw; go_simp; with_reducible rfl
    try simp only [Act.put, List.getElem_toArray, List.getElem_cons_succ, List.getElem_cons_zero, List.setIfInBounds_toArray, List.set_cons_zero, List.set_cons_succ]
    refine wpAnyH_take (i := 13) (v := ?_) rfl (by kernel_rfl) (by kernel_rfl) (by kernel_rfl) (fun _ _ _ h => by cases h.1) (Or.inl ⟨by rfl, ?_⟩) hS ?_
    rotate_left 1
    · intro w' hSw; obtain ⟨_, q0, q1, q2, q3⟩ := hSw; go_simp; with_reducible rfl
    try simp only [Act.put, List.getElem_toArray, List.getElem_cons_succ, List.getElem_cons_zero, List.setIfInBounds_toArray, List.set_cons_zero, List.set_cons_succ]
    refine wpAnyH_take (i := 14) (v := ?_) rfl (by kernel_rfl) (by kernel_rfl) (by kernel_rfl) (fun _ _ _ h => by cases h.1) (Or.inl ⟨by rfl, ?_⟩) hS ?_
    rotate_left 1
    · intro w' hSw; obtain ⟨_, q0, q1, q2, q3⟩ := hSw; go_simp; with_reducible rfl
    try simp only [Act.put, List.getElem_toArray, List.getElem_cons_succ, List.getElem_cons_zero, List.setIfInBounds_toArray, List.set_cons_zero, List.set_cons_succ]
    refine wpAnyH_take (i := 15) (v := ?_) rfl (by kernel_rfl) (by kernel_rfl) (by kernel_rfl) (fun _ _ _ h => by cases h.1) (Or.inl ⟨by rfl, ?_⟩) hS ?_
    rotate_left 1
    · intro w' hSw; obtain ⟨_, q0, q1, q2, q3⟩ := hSw; go_simp; with_reducible rfl
    try simp only [Act.put, List.getElem_toArray, List.getElem_cons_succ, List.getElem_cons_zero, List.setIfInBounds_toArray, List.set_cons_zero, List.set_cons_succ]
    refine wpAnyH_take (i := 16) (v := ?_) rfl (by kernel_rfl) (by kernel_rfl) (by kernel_rfl) (fun _ _ _ h => by cases h.1) (Or.inl ⟨by rfl, ?_⟩) hS ?_
    rotate_left 1
    · intro w' hSw; obtain ⟨_, q0, q1, q2, q3⟩ := hSw; go_simp; with_reducible rfl
    try simp only [Act.put, List.getElem_toArray, List.getElem_cons_succ, List.getElem_cons_zero, List.setIfInBounds_toArray, List.set_cons_zero, List.set_cons_succ]
    refine wpAnyH_take (i := 17) (v := ?_) rfl (by kernel_rfl) (by kernel_rfl) (by kernel_rfl) (fun _ _ _ h => by cases h.1) (Or.inl ⟨by rfl, ?_⟩) hS ?_
    rotate_left 1
    · intro w' hSw; obtain ⟨_, q0, q1, q2, q3⟩ := hSw; go_simp; with_reducible rfl
    try simp only [Act.put, List.getElem_toArray, List.getElem_cons_succ, List.getElem_cons_zero, List.setIfInBounds_toArray, List.set_cons_zero, List.set_cons_succ]
    refine wpAnyH_take (i := 18) (v := ?_) rfl (by kernel_rfl) (by kernel_rfl) (by kernel_rfl) (fun _ _ _ h => by cases h.1) (Or.inl ⟨by rfl, ?_⟩) hS ?_
    rotate_left 1
    · intro w' hSw; obtain ⟨_, q0, q1, q2, q3⟩ := hSw; go_simp; with_reducible rfl
    try simp only [Act.put, List.getElem_toArray, List.getElem_cons_succ, List.getElem_cons_zero, List.setIfInBounds_toArray, List.set_cons_zero, List.set_cons_succ]
    refine wpAnyH_take (i := 19) (v := ?_) rfl (by kernel_rfl) (by kernel_rfl) (by kernel_rfl) (fun _ _ _ h => by cases h.1) (Or.inl ⟨by rfl, ?_⟩) hS ?_
    rotate_left 1
    · intro w' hSw; obtain ⟨_, q0, q1, q2, q3⟩ := hSw; go_simp; with_reducible rfl
    try simp only [Act.put, List.getElem_toArray, List.getElem_cons_succ, List.getElem_cons_zero, List.setIfInBounds_toArray, List.set_cons_zero, List.set_cons_succ]
    refine wpAnyH_take (i := 20) (v := ?_) rfl (by kernel_rfl) (by kernel_rfl) (by kernel_rfl) (fun _ _ _ h => by cases h.1) (Or.inl ⟨by rfl, ?_⟩) hS ?_
    rotate_left 1
    · intro w' hSw; obtain ⟨_, q0, q1, q2, q3⟩ := hSw; go_simp; with_reducible rfl
    try simp only [Act.put, List.getElem_toArray, List.getElem_cons_succ, List.getElem_cons_zero, List.setIfInBounds_toArray, List.set_cons_zero, List.set_cons_succ]
    refine wpAnyH_take (i := 21) (v := ?_) rfl (by kernel_rfl) (by kernel_rfl) (by kernel_rfl) (fun _ _ _ h => by cases h.1) (Or.inl ⟨by rfl, ?_⟩) hS ?_
    rotate_left 1
    · intro w' hSw; obtain ⟨_, q0, q1, q2, q3⟩ := hSw; go_simp; with_reducible rfl
    try simp only [Act.put, List.getElem_toArray, List.getElem_cons_succ, List.getElem_cons_zero, List.setIfInBounds_toArray, List.set_cons_zero, List.set_cons_succ]
    refine wpAnyH_take (i := 22) (v := ?_) rfl (by kernel_rfl) (by kernel_rfl) (by kernel_rfl) (fun _ _ _ h => by cases h.1) (Or.inl ⟨by rfl, ?_⟩) hS ?_
    rotate_left 1
    · intro w' hSw; obtain ⟨_, q0, q1, q2, q3⟩ := hSw; go_simp; with_reducible rfl
    try simp only [Act.put, List.getElem_toArray, List.getElem_cons_succ, List.getElem_cons_zero, List.setIfInBounds_toArray, List.set_cons_zero, List.set_cons_succ]
    rw [or4 x0 x1 x2 x3 hx0 hx1 hx2 hx3]
    have hM : x0 * 16777216 + x1 * 65536 + x2 * 256 + x3 = num4 xs i := by
      obtain ⟨g0, g1, g2, g3⟩ := HG.out
      simp only [Nat.add_zero] at g0
      unfold num4
      rw [g0, g1, g2, g3]
    rw [hM]
    clear hM HG hx0 hx1 hx2 hx3
    generalize hMM : num4 xs i = M
    have hD3 : Fr [] A2 A2.drew := (Fr.refl _ _).drew
    have b03 := hD3.blk HB0.out (by simp)
    have ho3 := hD3.own HO0.out (by simp)
    have bs3 := hD3.blk HBS.out (by simp)
    have bn3 := hD3.blk HBN.out (by simp)
    have hd3 := hD3.blk HD.out (by simp)
    have hl3 := hD3.blk HL2.out (by simp)
    have fr3 := fr2.trans hD3
    have sz3 := Nat.le_trans sz2 hD3.size
    clear hD3 HB0 HO0 HBS HBN HD HL2 fr2 sz2 HSD
    generalize A2.drew = A3 at hS b03 ho3 bs3 bn3 hd3 hl3 fr3 sz3 ⊢
    obtain ⟨vA, vc, rfl, _, _, _⟩ := own_slice ho3
    have hF4 : Fr [] A3 (A3.alloc (.cells #[.int .u32 (M : Nat)] 44)) := (Fr.refl _ _).alloc _
    have hi40 : i < 10 := by have := HN.out; omega
    obtain ⟨v', w5, hr, ho5, hg5, _⟩ := app_run ael32 (A3.alloc (.cells #[.int .u32 (M : Nat)] 44)) (w.heap.size + 5) 39 _ i (C32 xs i) (ho3.alloc _) (some ⟨A3.heap.size, 0, none⟩) 1 1 [.int .u32 (M : Nat)] rfl (rd_lit A3 [.int .u32 (M : Nat)] 44) (by simp [Value.oneCell']) (by simp) (by simp only [maxLen]; omega) (by omega) (by simp; omega)
    obtain ⟨A', c', rfl, _, _, _⟩ := own_slice ho5
    have hvb : ∀ g, (Value.slice vA i vc).ownBlock = some g → w.heap.size + 5 ≤ g := HVB.out
    have hN5 : ∀ g, g < w.heap.size + 5 → g ∉ (Value.slice vA i vc).ownBlock.toList := fun g hg hm => by
      have := hvb g (by simpa using hm); omega
    have hF5 : Fr (Value.slice vA i vc).ownBlock.toList A3 w5 := hF4.nil.trans (fr_grown hg5)
    have b05 := hF5.blk b03 (hN5 _ (by omega))
    have bs5 := hF5.blk bs3 (hN5 _ (by omega))
    have bn5 := hF5.blk bn3 (hN5 _ (by omega))
    have hd5 := hF5.blk hd3 (hN5 _ (by omega))
    have hl5 := hF5.blk hl3 (hN5 _ (by omega))
    have fr5 : Fr [] w w5 := fr3.trans2 hF5 (fun t ht => .inr (by have := hvb t (by simpa using ht); omega))
    have sz5 := Nat.le_trans sz3 hF5.size
    have hFS : Fr [w.heap.size] w5 (w5.setCell ⟨w.heap.size, 0, none⟩ (.slice A' (i + 1) c')) := (Fr.refl _ _).setCell (.inl (by simp)) _
    have b06 := set1_new b05 (u := .slice A' (i + 1) c')
    have ho6 := hFS.own ho5 (fun g hg => by have := (ho5.lt g hg).1; simp; omega)
    have bs6 := hFS.blk bs5 (by simp)
    have bn6 := hFS.blk bn5 (by simp)
    have hd6 := hFS.blk hd5 (by simp)
    have hl6 := hFS.blk hl5 (by simp)
    have fr6 : Fr [] w (w5.setCell ⟨w.heap.size, 0, none⟩ (.slice A' (i + 1) c')) := fr5.trans2 hFS (fun t ht => .inr (by simp at ht; omega))
    have sz6 := Nat.le_trans sz5 hFS.size
    have HS5 := Lib.hid (HSS.out _ fr5)
    have HS6 := Lib.hid (HSS.out _ fr6)
    have HS4 := Lib.hid (HSS.out _ (fr3.trans hF4))
    have c03 := blk1_cell b03
    have c04 := blk1_cell (hF4.blk b03 (by simp))
    have c05 := blk1_cell b05
    have z05 := blk1_fz b05
    have hend : ∀ a : Act, Exit.inBlock 1 (roundPost Try.prog (w.heap.size + 4) PP) .normal a (w5.setCell ⟨w.heap.size, 0, none⟩ (.slice A' (i + 1) c')) := by
      intro a
      have hend := run_endRound (P := Try.prog) none hl6
      refine ⟨_, _, hend, ?_⟩
      rw [HPP.out]
      have hF7 := put_fr (w5.setCell ⟨w.heap.size, 0, none⟩ (.slice A' (i + 1) c')) (w.heap.size + 4) (.loop R)
      have hPut : (w5.setCell ⟨w.heap.size, 0, none⟩ (.slice A' (i + 1) c')).putObj (w.heap.size + 4) (.loop { ({ R with state := .busy } : Loop) with state := if (none : Option Code).isNone = true then .ready else .done, pending := none }) = (w5.setCell ⟨w.heap.size, 0, none⟩ (.slice A' (i + 1) c')).putObj (w.heap.size + 4) (.loop R) := by
        rw [← HER.out]
        rfl
      refine ⟨rfl, ?_⟩
      rw [hPut]
      refine ⟨⟨_, hF7.blk b06 (by simp), ?_⟩, hF7.blk bs6 (by simp), hF7.blk bn6 (by simp), hF7.blk hd6 (by simp), World.putObj_heap_same (by omega), fr6.trans2 hF7 (fun t ht => .inr (by simp at ht; omega)), Nat.le_trans sz6 hF7.size⟩
      rw [C32_succ, hMM]
      exact hF7.own ho6 (fun g hg => by have := (ho6.lt g hg).1; simp; omega)
    have HEnd := Lib.hid hend
    clear hend b03 ho3 bs3 bn3 hd3 hl3 b05 bs5 bn5 hd5 hl5 b06 ho6 bs6 bn6 hd6 hl6 fr6 sz6 fr5 sz5 hF5 hF4 hg5 ho5 hFS
    refine wpAnyH_ready (rs := [0, 23]) (by kernel_rfl) (by simp) ?_
    refine AllReadyH.cons rfl (fun K hK => ?_) (AllReadyH.cons rfl (fun K hK => ?_) AllReadyH.nil)
    · go_simp
      refine hK.out _ _ hS (fun _ => ?_)
      clear hK K
      try simp only [Act.put, List.getElem_toArray, List.getElem_cons_succ, List.getElem_cons_zero, List.setIfInBounds_toArray, List.set_cons_zero, List.set_cons_succ]
      refine wpAnyH_ready (rs := [23]) (by kernel_rfl) (by simp) ?_
      refine AllReadyH.cons rfl (fun K hK => ?_) AllReadyH.nil
      go_simp
      refine hK.out _ _ HS4.out (fun _ => ?_)
      clear hK K
      try simp only [Act.put, List.getElem_toArray, List.getElem_cons_succ, List.getElem_cons_zero, List.setIfInBounds_toArray, List.set_cons_zero, List.set_cons_succ]
      refine wpAnyH_ready (rs := [24]) (by kernel_rfl) (by simp) ?_
      refine AllReadyH.cons rfl (fun K hK => ?_) AllReadyH.nil
      refine step_app rfl _ _ _ rfl hr rfl rfl ?_
      refine hK.out _ _ HS5.out (fun _ => ?_)
      clear hK K
      try simp only [Act.put, List.getElem_toArray, List.getElem_cons_succ, List.getElem_cons_zero, List.setIfInBounds_toArray, List.set_cons_zero, List.set_cons_succ]
      refine wpAnyH_ready (rs := [25]) (by kernel_rfl) (by simp) ?_
      refine AllReadyH.cons rfl (fun K hK => ?_) AllReadyH.nil
      go_simp
      refine hK.out _ _ HS6.out (fun _ => ?_)
      clear hK K
      refine wpAnyH_done (by kernel_rfl) ⟨rfl, ?_⟩ _
      exact HEnd.out _
    · go_simp
      refine hK.out _ _ HS4.out (fun _ => ?_)
      clear hK K
      try simp only [Act.put, List.getElem_toArray, List.getElem_cons_succ, List.getElem_cons_zero, List.setIfInBounds_toArray, List.set_cons_zero, List.set_cons_succ]
      refine wpAnyH_ready (rs := [0]) (by kernel_rfl) (by simp) ?_
      refine AllReadyH.cons rfl (fun K hK => ?_) AllReadyH.nil
      go_simp
      refine hK.out _ _ HS4.out (fun _ => ?_)
      clear hK K
      try simp only [Act.put, List.getElem_toArray, List.getElem_cons_succ, List.getElem_cons_zero, List.setIfInBounds_toArray, List.set_cons_zero, List.set_cons_succ]
      refine wpAnyH_ready (rs := [24]) (by kernel_rfl) (by simp) ?_
      refine AllReadyH.cons rfl (fun K hK => ?_) AllReadyH.nil
      refine step_app rfl _ _ _ rfl hr rfl rfl ?_
      refine hK.out _ _ HS5.out (fun _ => ?_)
      clear hK K
      try simp only [Act.put, List.getElem_toArray, List.getElem_cons_succ, List.getElem_cons_zero, List.setIfInBounds_toArray, List.set_cons_zero, List.set_cons_succ]
      refine wpAnyH_ready (rs := [25]) (by kernel_rfl) (by simp) ?_
      refine AllReadyH.cons rfl (fun K hK => ?_) AllReadyH.nil
      go_simp
      refine hK.out _ _ HS6.out (fun _ => ?_)
      clear hK K
      refine wpAnyH_done (by kernel_rfl) ⟨rfl, ?_⟩ _
      exact HEnd.out _
  have HR := Lib.hid hRec
  refine (chunk1_in 4 (w.heap.size + 4) A0 b o n c q (w.heap.size + 1) (w.heap.size + 2) (by decide) hA0 HN.out hnc hc (by omega)
    (fun i W => i ≤ q ∧ IAd w R A0 n c xs i W) ?hK ?hKc ?hY W1 ⟨Nat.zero_le _, hI1⟩).mono ?_
  case hK =>
    rintro i W W' ⟨hi, hI⟩ hF
    exact ⟨hi, hI.fr' hF⟩
  case hKc =>
    rintro i W ⟨hi, hI⟩
    exact ⟨blk1_cell hI.bs, blk1_cell hI.bn⟩
  case hY =>
    rintro i W ⟨hi, hI⟩ hlt
    refine (hBody i W hI hlt).mono ?_
    rintro e W' ⟨rfl, hI'⟩
    exact ⟨rfl, hlt, hI'⟩
  rintro e W2 ⟨⟨v, rfl⟩, _, hI⟩
  have hst : R.state = .ready := by rw [← HR.out]
  have hpd : R.pending = none := by rw [← HR.out]
  have hend := run_endLoop (P := Try.prog) hI.hl (by rw [hst]; simp)
  rw [hpd] at hend
  have hF5 := put_fr W2 (w.heap.size + 4) (.loop { R with state := .exhausted, pending := none })
  clear hRec
  obtain ⟨⟨v0, b0, ho⟩, bs, bn, hd, _, fr, sz⟩ := hI
  replace hend : (Instr.endLoop (w.heap.size + 4)).run Try.prog W2 = .ok none (W2.putObj (w.heap.size + 4) (.loop { R with state := .exhausted, pending := none })) := by rw [hend, ← hpd]
  generalize W2.putObj (w.heap.size + 4) (.loop { R with state := .exhausted, pending := none }) = W5 at hF5 hend
  replace b0 := hF5.blk b0 (by simp)
  replace hd := hF5.blk hd (by simp)
  replace ho := hF5.own ho (fun g hg => by have := (ho.lt g hg).1; simp; omega)
  replace fr : Fr [] w W5 := fr.trans2 hF5 (fun t ht => .inr (by simp at ht; omega))
  obtain ⟨vA, vc, rfl, _, _, _⟩ := own_slice ho
  have c2 := blk1_cell b0
  refine ⟨none, W5, hend, ?_⟩
  have HB0 := Lib.hid b0
  have HD := Lib.hid hd
  have HO := Lib.hid ho
  clear hend hF5 HR hBody hI1 b0 hd ho bs bn hst hpd sz
  simp only
  gi_wp2
  have hF7 := put_fr W5 (w.heap.size + 3) (.deferred none)
  have ho7 := hF7.own HO.out (fun g hg => by have := (HO.out.lt g hg).1; simp; omega)
  refine ⟨by simp, .inl ⟨_, _, rfl, run_takeDeferred HD.out, ?_⟩⟩
  generalize W5.putObj (w.heap.size + 3) (.deferred none) = W7 at hF7 ho7 ⊢
  refine ⟨_, res29_any _ _ (.slice vA q vc) rfl, ?_⟩
  exact ⟨fr.trans2 hF7 (fun t ht => .inr (by simp at ht; omega)), _, _, rfl, own_ext ho7 (by omega)⟩
end Go.Proofs.Ytekhjpiopbkoaaa
