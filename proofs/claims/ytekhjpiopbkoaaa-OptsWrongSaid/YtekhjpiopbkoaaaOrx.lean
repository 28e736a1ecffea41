/- Read. -/
import Derived.Test.YtekhjpiopbkoaaaOre
import Derived.Test.YtekhjpiopbkoaaaOml
import Derived.RangeFuncIn
namespace Go.Proofs.Ytekhjpiopbkoaaa
open Go.RowKit Go.Shelf
set_option linter.unusedVariables false
set_option maxRecDepth 100000
attribute [local go_sem] Oper.semAt_some

theorem wpListIn_store_one {F : Fence} {nn : Nat} {P : Program} {ops : Array Oper} {rest : List Oper} {o : Oper} {a : Act} {w : World} {Q : Exit → Act → World → Prop} (hgd : o.guard = none) (ty : TypeId) (x y : Operand) (ho : o.op = .store ty x y)
    (g : Nat) (hx : a.eval x = .pointer (some ⟨g, 0, none⟩)) (h1 : (a.eval y).oneCell' = true)
    (t : TypeId) (old : Value) (hg : w.heap[g]? = some (.cells #[old] t (0, 0))) (hi : (P.info? ty).map (·.size) = some 1)
    (h : wpListIn F nn P ops Q rest (a.put o.dst undef) (w.setRow g #[a.eval y])) : wpListIn F nn P ops Q (o :: rest) a w := by
  refine wpListIn_plain hgd fun K hK' => ?_
  unfold Oper.wpIn
  refine ⟨?_, ?_⟩
  · simp [Oper.about, ho]
  · rw [Oper.semAt_plain F _ _ (by rw [ho]; intro c hc'; cases hc')]
    simp only [execOp, ho, hx, Instr.storeAt, Instr.sureAddr, Sem.run_bind, Sem.run_pure, Result.andThen_ok, run_storeVar_one w g t ty old _ hg hi h1]
    exact hK' _ _ h

/-- What is known between two rounds. -/
structure IRd (w00 : World) (q : Nat) (R : Loop) (A0 : Option Addr) (n c : Nat) (gs : List Nat) (pre : List (Nat × List UInt8)) (W : World) : Prop where
  b0 : W.heap[w00.heap.size]? = some (.cells #[.slice none 0 0] 24 (0, 0))
  b1 : W.heap[w00.heap.size + 1]? = some (.cells #[.int .i64 0] 28 (0, 0))
  b2 : ∃ v os, W.heap[w00.heap.size + 2]? = some (.cells #[v] 24 (0, 0)) ∧ W.ownsRow (q + 4) 35 2 v os.length (CO os) ∧ OO W (q + 4) os ∧ os.map pr = pre
  ex : Exc W (w00.heap.size + 3) (w00.heap.size + 4) gs
  fn : FunP W q (w00.heap.size + 4)
  bp : W.heap[q + 1]? = some (.cells #[.slice A0 n c] 27 (0, 0))
  hd : W.heap[q + 2]? = some (.deferred (some []))
  hl : W.heap[q + 3]? = some (.loop R)
  fr : Fr [] w00 W
  sz : q + 4 ≤ W.heap.size
  hq : w00.heap.size + 5 ≤ q
/-- What is known when the body has stopped. -/
structure IXd (w00 : World) (q : Nat) (R : Loop) (E : Nat) (W : World) : Prop where
  b0 : W.heap[w00.heap.size]? = some (.cells #[.slice none 0 0] 24 (0, 0))
  b1 : W.heap[w00.heap.size + 1]? = some (.cells #[.int .i64 (E : Nat)] 28 (0, 0))
  hd : W.heap[q + 2]? = some (.deferred (some []))
  hl : W.heap[q + 3]? = some (.loop { R with state := .done, pending := some .ret })
  fr : Fr [] w00 W
  sz : q + 4 ≤ W.heap.size
theorem IRd.fr' {w00 : World} {q : Nat} {R : Loop} {A0 : Option Addr} {n c : Nat} {gs : List Nat} {pre : List (Nat × List UInt8)} {W W' : World} (hI : IRd w00 q R A0 n c gs pre W) (hF : Fr [] W W') : IRd w00 q R A0 n c gs pre W' := by
  obtain ⟨b0, b1, ⟨v, os, b2, ho, hO, hm⟩, ex, fn, bp, hd, hl, fr, sz, hq⟩ := hI
  exact ⟨hF.blk b0 (by simp), hF.blk b1 (by simp), ⟨v, os, hF.blk b2 (by simp), hF.own ho (by simp), hO.fr hF (by simp), hm⟩, ex.fr hF (by simp) (by simp), hF.blk fn (by simp), hF.blk bp (by simp), hF.blk hd (by simp), hF.blk hl (by simp), fr.trans hF, Nat.le_trans sz hF.size, hq⟩
theorem put_fr (w : World) (l : Nat) (o : Obj) : Fr [l] w (w.putObj l o) := (Fr.refl _ _).grown (grownBy_putObj' _ _ _) (by intro k e; cases e; exact .inl (by simp))
theorem set_same {w : World} {b : Nat} {v : Value} {t : TypeId} (h : w.heap[b]? = some (.cells #[v] t (0, 0))) : w.setCell ⟨b, 0, none⟩ v = w := by
  have hlt := (Array.getElem?_eq_some_iff.1 h).1
  have : (w.setCell ⟨b, 0, none⟩ v).heap = w.heap := by
    apply Array.ext_getElem?
    intro i
    simp only [World.setCell, Array.getElem?_modify]
    by_cases e : b = i
    · subst e
      rw [if_pos rfl, h]
      simp
    · rw [if_neg e]
  cases w
  simp only [World.setCell] at this ⊢
  simp only [this]
theorem blk1_cell {w : World} {g : Nat} {v : Value} {t : TypeId} (h : w.heap[g]? = some (.cells #[v] t (0, 0))) : w.cell? ⟨g, 0, none⟩ = some v := by simp [World.cell?, h]
theorem blk1_fz {w : World} {g : Nat} {v : Value} {t : TypeId} (h : w.heap[g]? = some (.cells #[v] t (0, 0))) : w.frozen? ⟨g, 0, none⟩ = false := by simp [World.frozen?, h]
theorem set1_new {w : World} {g : Nat} {v u : Value} {t : TypeId} (h : w.heap[g]? = some (.cells #[v] t (0, 0))) : (w.setCell ⟨g, 0, none⟩ u).heap[g]? = some (.cells #[u] t (0, 0)) := by simp [World.setCell, Array.getElem?_modify, h]

theorem own_ne {w : World} {B1 B2 : Nat} {e1 e2 : TypeId} {s1 s2 : Nat} {v1 v2 : Value} {n1 n2 : Nat} {x1 x2 : List Value} (h1 : w.ownsRow B1 e1 s1 v1 n1 x1) (h2 : w.ownsRow B2 e2 s2 v2 n2 x2) (hne : e1 ≠ e2) (g : Nat) (hg : v1.ownBlock = some g) : v2.ownBlock ≠ some g := fun hg2 => by
  rcases h1.2 with ⟨rfl, _⟩ | ⟨g1, c1, u1, rfl, _, q1, _⟩
  · cases hg
  · rcases h2.2 with ⟨rfl, _⟩ | ⟨g2, c2, u2, rfl, _, q2, _⟩
    · cases hg2
    · simp [Value.ownBlock] at hg hg2
      subst hg hg2
      rw [q1] at q2
      injection q2 with q2
      injection q2 with _ q2
      exact hne q2
theorem endRec {R : Loop} (hst : R.state = .ready) (hpd : R.pending = none) : ({ R with state := .ready, pending := none } : Loop) = R := by
  cases R; simp only at hst hpd; subst hst hpd; rfl

theorem res6_any (tm : Array Value) (W : World) (a b : Nat) (v u : Value) (h2 : tm.getD 2 undef = .pointer (some ⟨a, 0, none⟩)) (h3 : tm.getD 3 undef = .pointer (some ⟨b, 0, none⟩)) (q2 : W.cell? ⟨a, 0, none⟩ = some v) (q3 : W.cell? ⟨b, 0, none⟩ = some u) :
    (results Try.f12 tm).run Try.prog W = .ok (.tuple #[v, u]) W := by
  have e : Try.f12.results = #[.cell 2 24, .cell 3 28] := rfl
  have l2 : (loadVar 24 ⟨a, 0, none⟩).run Try.prog W = .ok v W := by go_simp
  have l3 : (loadVar 28 ⟨b, 0, none⟩).run Try.prog W = .ok u W := by go_simp
  have a2 : (asAddr (tm[2]?.getD undef)).run Try.prog W = .ok ⟨a, 0, none⟩ W := by
    have h : tm[2]?.getD undef = .pointer (some ⟨a, 0, none⟩) := by simpa using h2
    rw [h]; rfl
  have a3 : (asAddr (tm[3]?.getD undef)).run Try.prog W = .ok ⟨b, 0, none⟩ W := by
    have h : tm[3]?.getD undef = .pointer (some ⟨b, 0, none⟩) := by simpa using h3
    rw [h]; rfl
  simp only [results, e]
  simp [Sem.run_bind, Result.andThen, a2, a3, l2, l3]
/-- What Read hands back for at most 40 bytes. -/
def RedO (xs : List UInt8) (w : World) (e : Ending) (W' : World) : Prop :=
  Fr [] w W' ∧ ((∃ E : Nat, E ≠ 0 ∧ rdF [] xs = (E, []) ∧ e = .returned (.tuple #[.slice none 0 0, .int .i64 E])) ∨
    ∃ (os : List Opt) (A : Option Addr) (c : Nat), rdF [] xs = (0, os.map pr) ∧ e = .returned (.tuple #[.slice A os.length c, .int .i64 0]) ∧ W'.ownsRow w.heap.size 35 2 (.slice A os.length c) os.length (CO os) ∧ OO W' w.heap.size os)
set_option maxHeartbeats 4000000 in
theorem read_in (A0 : Option Addr) (b o n c : Nat) (hA0 : 0 < n → A0 = some ⟨b, o, none⟩) (xs : List UInt8) (w : World) (hl : xs.length = n) (hrd : Rd w (some ⟨b, o, none⟩) (B8 xs)) (hnc : n ≤ c) (hc : c ≤ 9223372036854775807) (hn : n ≤ 40) :
    CallsIn Fence.wide 5 Try.prog 12 #[.slice A0 n c] w (RedO xs w) := by
  have i40 : ¬ (40 : Int) < (n : Int) := by omega
  have hx0 : ((w.alloc (.cells #[.slice none 0 0] 24)).alloc (.cells #[.int .i64 0] 28)).heap.size = w.heap.size + 2 := by simp
  have hb0 : (((w.alloc (.cells #[.slice none 0 0] 24)).alloc (.cells #[.int .i64 0] 28)).alloc (.cells #[.slice none 0 0] 24)).heap[w.heap.size]? = some (.cells #[.slice none 0 0] 24 (0, 0)) := (((Fr.refl [] _).alloc _).alloc _).blk (heap_alloc_new w _) (by simp)
  have hb1 : (((w.alloc (.cells #[.slice none 0 0] 24)).alloc (.cells #[.int .i64 0] 28)).alloc (.cells #[.slice none 0 0] 24)).heap[w.heap.size + 1]? = some (.cells #[.int .i64 0] 28 (0, 0)) := by
    have h := heap_alloc_new (w.alloc (.cells #[.slice none 0 0] 24)) (.cells #[.int .i64 0] 28)
    rw [World.size_alloc] at h
    exact ((Fr.refl [] _).alloc _).blk h (by simp)
  have hb2 : (((w.alloc (.cells #[.slice none 0 0] 24)).alloc (.cells #[.int .i64 0] 28)).alloc (.cells #[.slice none 0 0] 24)).heap[w.heap.size + 2]? = some (.cells #[.slice none 0 0] 24 (0, 0)) := by
    rw [← hx0]; exact heap_alloc_new _ _
  have hF0 : Fr [] w (((w.alloc (.cells #[.slice none 0 0] 24)).alloc (.cells #[.int .i64 0] 28)).alloc (.cells #[.slice none 0 0] 24)) := (((Fr.refl [] _).alloc _).alloc _).alloc _
  have hs0 : (((w.alloc (.cells #[.slice none 0 0] 24)).alloc (.cells #[.int .i64 0] 28)).alloc (.cells #[.slice none 0 0] 24)).heap.size = w.heap.size + 3 := by simp
  have cE := excluder_any (((w.alloc (.cells #[.slice none 0 0] 24)).alloc (.cells #[.int .i64 0] 28)).alloc (.cells #[.slice none 0 0] 24))
  have HB0 := Lib.hid hb0
  have HB1 := Lib.hid hb1
  have HB2 := Lib.hid hb2
  have HF0 := Lib.hid hF0
  have HS0 := Lib.hid hs0
  have CE := Lib.hid cE
  clear hb0 hb1 hb2 hF0 hs0 cE hx0
  refine callsIn_of_wp_marks Try.func12 rfl trivial ?_ rfl
  simp only [Try.ntmps12, List.size_toArray, List.length_cons, List.length_nil, Nat.reduceAdd, Nat.reduceSub, Array.replicate_succ, Array.replicate_zero, List.push_toArray, List.append_toArray, List.nil_append, List.cons_append]
  gi_wp2_with fail
  refine ⟨trivial, ?_⟩
  refine (callsIn_wide.2 CE.out).mono ?_
  rintro e w1 ⟨rfl, hE, hF1⟩
  rw [HS0.out] at hE ⊢
  have hb0 := hF1.blk HB0.out (by simp)
  have hb1 := hF1.blk HB1.out (by simp)
  have hb2 := hF1.blk HB2.out (by simp)
  have fr1 := HF0.out.trans hF1
  have sz1 := hF1.size
  rw [HS0.out] at sz1
  have hsE := lt_of_block hE.x
  clear HB0 HB1 HB2 HF0 HS0 hF1 CE
  simp only [Nat.add_assoc, Nat.reduceAdd] at *
  have HB0 := Lib.hid hb0
  have HB1 := Lib.hid hb1
  have HB2 := Lib.hid hb2
  have FR1 := Lib.hid fr1
  have HE := Lib.hid hE
  have hn0 : (w1.alloc (.cells #[.nilFunc] 62)).heap[w1.heap.size]? = some (.cells #[.nilFunc] 62 (0, 0)) := heap_alloc_new w1 _
  have HN0 := Lib.hid hn0
  clear hb0 hb1 hb2 fr1 hE hn0
  gi_wp2_with (refine wpListIn_store_one rfl 62 _ _ rfl (w1.heap.size) rfl rfl _ _ HN0.out (by kernel_rfl) ?_)
  refine ⟨trivial, ?_⟩
  refine (callsIn_wide.2 (parts_any A0 n c _)).mono ?_
  rintro e w2 ⟨rfl, rfl⟩
  have hFB : Fr [] w1 (((w1.alloc (.cells #[.nilFunc] 62)).setRow w1.heap.size #[.func (.func 37) #[] #[.pointer (some ⟨w.heap.size + 4, 0, none⟩)]]).alloc (.cells #[.slice A0 n c] 27)) := (((Fr.refl [] w1).alloc _).setRow (.inr (Nat.le_refl _)) _).alloc _
  have hsB0 : ((w1.alloc (.cells #[.nilFunc] 62)).setRow w1.heap.size #[.func (.func 37) #[] #[.pointer (some ⟨w.heap.size + 4, 0, none⟩)]]).heap.size = w1.heap.size + 1 := by simp [World.setRow]
  have hfn : FunP (((w1.alloc (.cells #[.nilFunc] 62)).setRow w1.heap.size #[.func (.func 37) #[] #[.pointer (some ⟨w.heap.size + 4, 0, none⟩)]]).alloc (.cells #[.slice A0 n c] 27)) w1.heap.size (w.heap.size + 4) := ((Fr.refl [] _).alloc _).blk (setRow_heap _ _ _ _ _ _ HN0.out) (by simp)
  have hbp : (((w1.alloc (.cells #[.nilFunc] 62)).setRow w1.heap.size #[.func (.func 37) #[] #[.pointer (some ⟨w.heap.size + 4, 0, none⟩)]]).alloc (.cells #[.slice A0 n c] 27)).heap[w1.heap.size + 1]? = some (.cells #[.slice A0 n c] 27 (0, 0)) := by
    rw [← hsB0]; exact heap_alloc_new _ _
  have hsB : (((w1.alloc (.cells #[.nilFunc] 62)).setRow w1.heap.size #[.func (.func 37) #[] #[.pointer (some ⟨w.heap.size + 4, 0, none⟩)]]).alloc (.cells #[.slice A0 n c] 27)).heap.size = w1.heap.size + 2 := by rw [World.size_alloc, hsB0]
  rw [show ((w1.alloc (.cells #[.nilFunc] 62)).setRow w1.heap.size #[.func (.func 37) #[] #[.pointer (some ⟨w.heap.size + 4, 0, none⟩)]]).heap.size = w1.heap.size + 1 from hsB0]
  gi_wp2_with fail
  generalize (((w1.alloc (.cells #[.nilFunc] 62)).setRow w1.heap.size #[.func (.func 37) #[] #[.pointer (some ⟨w.heap.size + 4, 0, none⟩)]]).alloc (.cells #[.slice A0 n c] 27)) = wE at *
  have gE := HE.out.fr hFB (by simp) (by simp)
  have gb0 := hFB.blk HB0.out (by simp)
  have gb1 := hFB.blk HB1.out (by simp)
  have gb2 := hFB.blk HB2.out (by simp)
  have gfr := FR1.out.trans hFB
  clear HE HB0 HB1 HB2 FR1 hFB hsB0 HN0
  refine wpIn_rangeFunc ?_
  intro fn hfnn
  refine ⟨_, _, _, { target := .fn (.func 39) #[.pointer (some ⟨w1.heap.size + 1, 0, none⟩)], args := #[.func (.yield (wE.heap.size + 1)) #[] #[]] }, ?wa, 39, #[.func (.yield (wE.heap.size + 1)) #[] #[], .pointer (some ⟨w1.heap.size + 1, 0, none⟩)], ?wb, run_enterLoop_outer _ _ _ _ _, ?ha, ?hb, ?hc, fun _ => by decide, ?_⟩
  case ha =>
    have ht : ∀ W, (resolve (Act.eval { tmps := #[.slice A0 n c, undef, .pointer (some ⟨w.heap.size, 0, none⟩), .pointer (some ⟨w.heap.size + 1, 0, none⟩), .pointer (some ⟨w.heap.size + 2, 0, none⟩), .pointer (some ⟨w1.heap.size, 0, none⟩), undef, undef, .slice A0 n c, .int .i64 n, .bool false, .func (.func 37) #[] #[.pointer (some ⟨w.heap.size + 4, 0, none⟩)], .slice A0 n c, .func (.func 39) #[] #[.pointer (some ⟨w1.heap.size + 1, 0, none⟩)], undef, undef, undef, undef, undef, undef, undef, undef, undef, undef, undef, undef, undef, undef], defers := [] }) (rangeCall (.tmp 13) (wE.heap.size + 1)) 0).run Try.prog W = .ok { target := .fn (.func 39) #[.pointer (some ⟨w1.heap.size + 1, 0, none⟩)], args := #[.func (.yield (wE.heap.size + 1)) #[] #[]] } W := fun W => by
      simp only [resolve]
      simp [go_sem]
    exact ht _
  case hb => intro f' hf'; trivial
  case hc =>
    have ht : ∀ W, (invoke (.fn (.func 39) #[.pointer (some ⟨w1.heap.size + 1, 0, none⟩)]) #[.func (.yield (wE.heap.size + 1)) #[] #[]]).run Try.prog W = .ok (.enter 39 #[.func (.yield (wE.heap.size + 1)) #[] #[], .pointer (some ⟨w1.heap.size + 1, 0, none⟩)]) W := fun W => by
      simp [invoke, go_sem]
    exact ht _
  · generalize hRec : (Loop.mk _ _ _ _ _ _ _ _) = R
    have hl1 : ((wE.alloc (.deferred (some []))).alloc (.loop R)).heap[w1.heap.size + 3]? = some (.loop R) := by
      have h1 : (wE.alloc (.deferred (some []))).heap.size = w1.heap.size + 3 := by rw [World.size_alloc, hsB]
      rw [← h1]; exact heap_alloc_new _ _
    have hd1 : ((wE.alloc (.deferred (some []))).alloc (.loop R)).heap[w1.heap.size + 2]? = some (.deferred (some [])) := by
      rw [← hsB]
      exact ((Fr.refl [] _).alloc _).blk (heap_alloc_new _ _) (by simp)
    have hF1 : Fr [] wE ((wE.alloc (.deferred (some []))).alloc (.loop R)) := ((Fr.refl _ _).alloc _).alloc _
    have hs1 : ((wE.alloc (.deferred (some []))).alloc (.loop R)).heap.size = w1.heap.size + 4 := by rw [World.size_alloc, World.size_alloc, hsB]
    generalize (wE.alloc (.deferred (some []))).alloc (.loop R) = W1 at hl1 hd1 hF1 hs1 ⊢
    have hI1 : IRd w w1.heap.size R A0 n c [] [] W1 := ⟨hF1.blk gb0 (by simp), hF1.blk gb1 (by simp), ⟨_, [], hF1.blk gb2 (by simp), World.ownsRow_nil _ _ _ _, OO.nil _ _, rfl⟩, gE.fr hF1 (by simp) (by simp), hF1.blk hfn (by simp), hF1.blk hbp (by simp), hd1, hl1, gfr.trans hF1, by omega, by omega⟩
    rw [show wE.heap.size = w1.heap.size + 2 from hsB] at *
    simp only [Nat.add_assoc, Nat.reduceAdd] at *
    generalize hq : w1.heap.size = q at *
    clear hl1 hd1 hF1 hs1 gE gb0 gb1 gb2 gfr hfn hbp hsB sz1 hsE hq
    have hBodyE : ∀ (gs : List Nat) (pre : List (Nat × List UInt8)) (k m d E : Nat) (A : Option Addr) (W : World), IRd w q R A0 n c gs pre W → E ≠ 0 → YieldAt Fence.wide 3 Try.prog (q + 3) #[.agg #[.int .u8 k, .slice A m d], .int .i64 E] W (fun e W' => (∃ b, e = .returned (.bool b)) ∧ IXd w q R E W') := by
      intro gs pre k m d E A W hI hE0
      have hl := hI.hl
      have hy := run_yield (P := Try.prog) (args := #[.agg #[.int .u8 k, .slice A m d], .int .i64 E]) hl (by rw [← hRec]; rfl)
      refine ⟨_, _, _, _, hy, roundIn_of_wpIn trivial ?_⟩
      have hst : R.state = .ready := by rw [← hRec]
      have hBX : Fr [] W (W.alloc (.cells #[.int .u8 k, .slice A m d] 35)) := (Fr.refl _ _).alloc _
      have hbx : (W.alloc (.cells #[.int .u8 k, .slice A m d] 35)).heap[W.heap.size]? = some (.cells #[.int .u8 k, .slice A m d] 35 (0, 0)) := heap_alloc_new W _
      have hbeg := run_beginRound (P := Try.prog) (hBX.blk hl (by simp)) hst
      have hFp := put_fr (W.alloc (.cells #[.int .u8 k, .slice A m d] 35)) (q + 3) (.loop { R with state := .busy })
      have hsz := hI.sz
      have hsB := hBX.size
      have hl2 : ((W.alloc (.cells #[.int .u8 k, .slice A m d] 35)).putObj (q + 3) (.loop { R with state := .busy })).heap[q + 3]? = some (.loop { R with state := .busy }) := World.putObj_heap_same (by omega)
      replace hFp : Fr [q + 3] W ((W.alloc (.cells #[.int .u8 k, .slice A m d] 35)).putObj (q + 3) (.loop { R with state := .busy })) := hBX.nil.trans hFp
      generalize (W.alloc (.cells #[.int .u8 k, .slice A m d] 35)).putObj (q + 3) (.loop { R with state := .busy }) = A2 at hbeg hFp hl2
      obtain ⟨b0, b1, _, ex, fn, bp, hd, _, fr, sz, hq⟩ := hI
      replace b0 := hFp.blk b0 (by simp; omega)
      replace b1 := hFp.blk b1 (by simp; omega)
      replace hd := hFp.blk hd (by simp)
      have fr2 : Fr [] w A2 := fr.trans2 hFp (fun t ht => .inr (by simp at ht; omega))
      have sz2 : q + 4 ≤ A2.heap.size := Nat.le_trans sz hFp.size
      have HR := Lib.hid hRec
      have HBEG := Lib.hid hbeg
      clear hRec hbeg hFp hy fr ex fn bp hst hBX hbx hsB
      have e2 := congrArg Loop.tmps HR.out
      have e3 := congrArg Loop.params HR.out
      have e4 := congrArg Loop.assign HR.out
      have e5 := congrArg Loop.body HR.out
      dsimp only at e2 e3 e4 e5
      rw [← e2, ← e3, ← e4, ← e5]
      clear e2 e3 e4 e5
      have HL2 := Lib.hid hl2
      have HE0 := Lib.hid hE0
      have eb : (((E : Nat) : Int) != 0) = true := by rw [bne_iff_ne]; omega
      clear hl2 hl hE0
      obtain ⟨PP, hPP⟩ : ∃ PP : Ending → World → Prop, PP = fun e W' => (∃ b, e = .returned (.bool b)) ∧ IXd w q R E W' := ⟨_, rfl⟩
      rw [← hPP]
      have HPP := Lib.hid hPP
      clear hPP
      simp only [Array.zip]
      gi_wp2
      refine ⟨_, HBEG.out, ?_⟩
      clear HBEG
      have f0 := blk1_fz b0
      have f1 := blk1_fz b1
      have c0 := blk1_cell b0
      have c1 := blk1_cell b1
      gi_wp2_with fail
      rw [set_same b0]
      have h1 := set1_new b1 (u := .int .i64 E)
      have hFS : Fr [w.heap.size + 1] A2 (A2.setCell ⟨w.heap.size + 1, 0, none⟩ (.int .i64 E)) := (Fr.refl _ _).setCell (.inl (by simp)) _
      generalize A2.setCell ⟨w.heap.size + 1, 0, none⟩ (.int .i64 E) = A3 at h1 hFS ⊢
      have hl3 := hFS.blk HL2.out (by simp; omega)
      have hend := run_endRound (P := Try.prog) (some .ret) hl3
      refine ⟨_, _, hend, ?_⟩
      rw [HPP.out]
      have hF4 := put_fr A3 (q + 3) (.loop { R with state := .done, pending := some .ret })
      have sz3 := hFS.size
      refine ⟨⟨_, rfl⟩, hF4.blk (hFS.blk b0 (by simp)) (by simp; omega), hF4.blk h1 (by simp; omega), hF4.blk (hFS.blk hd (by simp; omega)) (by simp), World.putObj_heap_same (by omega), (fr2.trans2 hFS (fun t ht => .inr (by simp at ht; omega))).trans2 hF4 (fun t ht => .inr (by simp at ht; omega)), Nat.le_trans (by omega) hF4.size⟩
    have hBodyY : ∀ (gs : List Nat) (pre : List (Nat × List UInt8)) (k d : Nat) (D : List UInt8) (A : Option Addr) (W0 W : World), IRd w q R A0 n c gs pre W0 → Fr [] W0 W → W.ownsRow W0.heap.size 5 1 (.slice A D.length d) D.length (B8 D) → D.length ≤ 38 → k < 256 → pre.length ≤ 39 →
        YieldAt Fence.wide 3 Try.prog (q + 3) #[.agg #[.int .u8 k, .slice A D.length d], .int .i64 0] W (fun e W' => (¬ (grp k ≠ 0 ∧ grp k ∈ gs) ∧ e = .returned (.bool true) ∧ IRd w q R A0 n c (gs' gs k) (pre ++ [(k, D)]) W') ∨ ((grp k ≠ 0 ∧ grp k ∈ gs) ∧ e = .returned (.bool false) ∧ IXd w q R 63 W')) := by
      intro gs pre k d D A W0 W hI0 hF0 hD hD38 hk hpl
      have hI := hI0.fr' hF0
      obtain ⟨v0, os, b20, ho0, hO0, hm⟩ := hI0.b2
      have hap : ∀ a ∈ os, ∀ g, (opO a).ownBlock = some g → (Value.slice A D.length d).ownBlock ≠ some g := fun a ha g hg hg2 => by
        have h1 := (hO0.own a ha).lt g hg
        have h2 := hD.lt g hg2
        omega
      have hl := hI.hl
      have hy := run_yield (P := Try.prog) (args := #[.agg #[.int .u8 k, .slice A D.length d], .int .i64 0]) hl (by rw [← hRec]; rfl)
      refine ⟨_, _, _, _, hy, roundIn_of_wpIn trivial ?_⟩
      have hst : R.state = .ready := by rw [← hRec]
      have hpd : R.pending = none := by rw [← hRec]
      have hER := endRec hst hpd
      have hBX : Fr [] W (W.alloc (.cells #[.int .u8 k, .slice A D.length d] 35)) := (Fr.refl _ _).alloc _
      have hbx : (W.alloc (.cells #[.int .u8 k, .slice A D.length d] 35)).heap[W.heap.size]? = some (.cells #[.int .u8 k, .slice A D.length d] 35 (0, 0)) := heap_alloc_new W _
      have hbeg := run_beginRound (P := Try.prog) (hBX.blk hl (by simp)) hst
      have hFp0 := put_fr (W.alloc (.cells #[.int .u8 k, .slice A D.length d] 35)) (q + 3) (.loop { R with state := .busy })
      have hsz := hI.sz
      have hsB := hBX.size
      have hbx2 := hFp0.blk hbx (by simp; omega)
      have hl2 : ((W.alloc (.cells #[.int .u8 k, .slice A D.length d] 35)).putObj (q + 3) (.loop { R with state := .busy })).heap[q + 3]? = some (.loop { R with state := .busy }) := World.putObj_heap_same (by omega)
      have hFp : Fr [q + 3] W ((W.alloc (.cells #[.int .u8 k, .slice A D.length d] 35)).putObj (q + 3) (.loop { R with state := .busy })) := hBX.nil.trans hFp0
      generalize (W.alloc (.cells #[.int .u8 k, .slice A D.length d] 35)).putObj (q + 3) (.loop { R with state := .busy }) = A2 at hbeg hFp hl2 hbx2
      obtain ⟨b0, b1, _, ex, fnn, bp, hd, _, fr, sz, hq⟩ := hI
      have hFW : Fr [q + 3] W0 A2 := hF0.nil.trans hFp
      have hvb0 : ∀ g, v0.ownBlock = some g → q + 4 ≤ g := fun g hg => (ho0.lt g hg).1
      have hob0 : ∀ a ∈ os, ∀ g, (opO a).ownBlock = some g → q + 4 ≤ g := fun a ha g hg => ((hO0.own a ha).lt g hg).1
      have hszW := hF0.size
      have hsz0 := hI0.sz
      have hdb0 : ∀ g, (Value.slice A D.length d).ownBlock = some g → q + 4 ≤ g := fun g hg => by
        have := (hD.lt g hg).1; omega
      replace b20 := hFW.blk b20 (by simp; omega)
      replace ho0 := hFW.own ho0 (fun g hg => by have := hvb0 g hg; simp; omega)
      replace hO0 := hO0.fr hFW (fun a ha g hg => by have := hob0 a ha g hg; simp; omega)
      have hD2 : A2.ownsRow (q + 4) 5 1 (.slice A D.length d) D.length (B8 D) := own_ext (hFp.own hD (fun g hg => by have := hdb0 g hg; simp; omega)) (by omega)
      replace b0 := hFp.blk b0 (by simp; omega)
      replace b1 := hFp.blk b1 (by simp; omega)
      replace hd := hFp.blk hd (by simp)
      replace bp := hFp.blk bp (by simp)
      replace fnn : FunP A2 q (w.heap.size + 4) := hFp.blk fnn (by simp)
      replace ex := ex.fr hFp (by simp; omega) (by simp; omega)
      have fr2 : Fr [] w A2 := fr.trans2 hFp (fun t ht => .inr (by simp at ht; omega))
      have sz2 : q + 4 ≤ A2.heap.size := Nat.le_trans sz hFp.size
      have q5 := fnn.cell
      have q6 : A2.cell? ⟨W.heap.size, 0, none⟩ = some (.int .u8 k) := by simp [World.cell?, hbx2]
      have cX := exc_any k (w.heap.size + 3) (w.heap.size + 4) gs A2 ex
      have HR := Lib.hid hRec
      have HER := Lib.hid hER
      have HBEG := Lib.hid hbeg
      have HB0 := Lib.hid b0
      have HB1 := Lib.hid b1
      have HB20 := Lib.hid b20
      have HO0 := Lib.hid ho0
      have HOO := Lib.hid hO0
      have HD2 := Lib.hid hD2
      have HHD := Lib.hid hd
      have HBP := Lib.hid bp
      have HFN := Lib.hid fnn
      have HFR := Lib.hid fr2
      have HL2 := Lib.hid hl2
      have HBX := Lib.hid hbx2
      have HAP := Lib.hid hap
      have HM := Lib.hid hm
      have HVB := Lib.hid hvb0
      have HOB := Lib.hid hob0
      have HDB := Lib.hid hdb0
      have CX := Lib.hid cX
      clear hRec hER hbeg b0 b1 b20 ho0 hO0 hD2 hd bp fnn fr2 hl2 hbx2 hap hm hvb0 hob0 hdb0 cX hFW hF0 hFp hFp0 hI0 hy fr hst hpd hBX hbx hsB hl ex hD hBodyE
      have e2 := congrArg Loop.tmps HR.out
      have e3 := congrArg Loop.params HR.out
      have e4 := congrArg Loop.assign HR.out
      have e5 := congrArg Loop.body HR.out
      dsimp only at e2 e3 e4 e5
      rw [← e2, ← e3, ← e4, ← e5]
      clear e2 e3 e4 e5 HR
      obtain ⟨PP, hPP⟩ : ∃ PP : Ending → World → Prop, PP = fun e W' => (¬ (grp k ≠ 0 ∧ grp k ∈ gs) ∧ e = .returned (.bool true) ∧ IRd w q R A0 n c (gs' gs k) (pre ++ [(k, D)]) W') ∨ ((grp k ≠ 0 ∧ grp k ∈ gs) ∧ e = .returned (.bool false) ∧ IXd w q R 63 W') := ⟨_, rfl⟩
      rw [← hPP]
      have HPP := Lib.hid hPP
      clear hPP
      simp only [Array.zip]
      gi_wp2
      refine ⟨_, HBEG.out, ?_⟩
      clear HBEG
      gi_wp2_with fail
      refine ⟨trivial, ?_⟩
      refine (callsIn_wide.2 CX.out).mono ?_
      rintro e w3 ⟨hF3, hcase⟩
      have sz3 := hF3.size
      have HB0' := Lib.hid (hF3.blk HB0.out (by simp))
      have HB1' := Lib.hid (hF3.blk HB1.out (by simp))
      have HL3 := Lib.hid (hF3.blk HL2.out (by simp; omega))
      have HHD3 := Lib.hid (hF3.blk HHD.out (by simp; omega))
      have HFR3 := Lib.hid (HFR.out.trans2 hF3 (fun t ht => .inr (by simp at ht; omega)))
      by_cases hgm : grp k ≠ 0 ∧ grp k ∈ gs
      · obtain rfl : e = .returned (.bool true) := by
          rcases hcase with ⟨h0, _⟩ | ⟨_, _, h⟩ | ⟨_, h2, _⟩
          · exact absurd h0 hgm.1
          · exact h
          · exact absurd hgm.2 h2
        have f0 := blk1_fz HB0'.out
        have f1 := blk1_fz HB1'.out
        have c0 := blk1_cell HB0'.out
        have c1 := blk1_cell HB1'.out
        have HGM := Lib.hid hgm
        clear hcase hF3 hgm q5 q6 CX
        gi_wp2_with fail
        rw [set_same HB0'.out]
        have h1 := set1_new HB1'.out (u := .int .i64 63)
        have hFS : Fr [w.heap.size + 1] w3 (w3.setCell ⟨w.heap.size + 1, 0, none⟩ (.int .i64 63)) := (Fr.refl _ _).setCell (.inl (by simp)) _
        generalize w3.setCell ⟨w.heap.size + 1, 0, none⟩ (.int .i64 63) = A3 at h1 hFS ⊢
        have hl3 := hFS.blk HL3.out (by simp; omega)
        have hend := run_endRound (P := Try.prog) (some .ret) hl3
        refine ⟨_, _, hend, ?_⟩
        rw [HPP.out]
        have hF4 := put_fr A3 (q + 3) (.loop { R with state := .done, pending := some .ret })
        have sz4 := hFS.size
        refine .inr ⟨HGM.out, rfl, hF4.blk (hFS.blk HB0'.out (by simp)) (by simp; omega), hF4.blk h1 (by simp; omega), hF4.blk (hFS.blk HHD3.out (by simp; omega)) (by simp), World.putObj_heap_same (by omega), (HFR3.out.trans2 hFS (fun t ht => .inr (by simp at ht; omega))).trans2 hF4 (fun t ht => .inr (by simp at ht; omega)), Nat.le_trans (by omega) hF4.size⟩
      · obtain ⟨rfl, hE3⟩ : e = .returned (.bool false) ∧ Exc w3 (w.heap.size + 3) (w.heap.size + 4) (gs' gs k) := by
          unfold gs'
          rcases hcase with ⟨h0, h1, h2⟩ | ⟨h0, h1, _⟩ | ⟨h0, h1, h2, h3⟩
          · rw [if_pos h0]; exact ⟨h1, h2⟩
          · exact absurd ⟨h0, h1⟩ hgm
          · rw [if_neg h0]; exact ⟨h2, h3⟩
        have b23 := hF3.blk HB20.out (by simp)
        have ho3 := hF3.own HO0.out (fun g hg => by have := HVB.out g hg; simp; omega)
        have hO3 := HOO.out.fr hF3 (fun a ha g hg => by have := HOB.out a ha g hg; simp; omega)
        have hD3 := hF3.own HD2.out (fun g hg => by have := HDB.out g hg; simp; omega)
        have bp3 := hF3.blk HBP.out (by simp; omega)
        have fn3 : FunP w3 q (w.heap.size + 4) := hF3.blk HFN.out (by simp; omega)
        have bx3 := hF3.blk HBX.out (by simp; omega)
        have hosl : os.length = pre.length := by rw [← HM.out, List.length_map]
        obtain ⟨vA, vc, rfl, _, _, _⟩ := own_slice ho3
        obtain ⟨v', w5, hr, ho5, hg5, _⟩ := app_run elO (w3.alloc (.cells #[.int .u8 k, .slice A D.length d] 35)) (q + 4) 24 _ os.length (CO os) (ho3.alloc _) (some ⟨w3.heap.size, 0, none⟩) 1 1 [.int .u8 k, .slice A D.length d] rfl (rd_lit w3 [.int .u8 k, .slice A D.length d] 35) (by simp [Value.oneCell']) (by simp) (by simp only [maxLen]; omega) (by omega) (by simp; omega)
        obtain ⟨A', c', rfl, _, _, _⟩ := own_slice ho5
        have hF5 : Fr (Value.slice vA os.length vc).ownBlock.toList w3 w5 := ((Fr.refl [] w3).alloc _).nil.trans (fr_grown hg5)
        have b25 := hF5.blk b23 (by simp; intro h; have := HVB.out _ h; omega)
        have c25 := blk1_cell b25
        have z25 := blk1_fz b25
        have c23 := blk1_cell (((Fr.refl [] w3).alloc (.cells #[.int .u8 k, .slice A D.length d] 35)).blk b23 (by simp))
        have c23' := blk1_cell b23
        have x0 : w3.cell? ⟨W.heap.size, 0, none⟩ = some (.int .u8 k) := by simp [World.cell?, bx3]
        have x1 : w3.cell? ⟨W.heap.size, 1, none⟩ = some (.slice A D.length d) := by simp [World.cell?, bx3]
        have HGM := Lib.hid hgm
        have HE3 := Lib.hid hE3
        have B23 := Lib.hid b23
        have HO3 := Lib.hid ho3
        have HOO3 := Lib.hid hO3
        have HD3 := Lib.hid hD3
        have HBP3 := Lib.hid bp3
        have HFN3 := Lib.hid fn3
        have HO5 := Lib.hid ho5
        have HF5 := Lib.hid hF5
        have B25 := Lib.hid b25
        have HOSL := Lib.hid hosl
        clear hcase hF3 hgm q5 q6 CX hE3 b23 ho3 hO3 hD3 bp3 fn3 bx3 hosl ho5 hF5 b25 hg5
        gi_wp2_with (gi_at_builtin; refine wpListIn_app rfl _ _ _ rfl hr rfl rfl ?_)
        have h1 := set1_new B25.out (u := .slice A' (os.length + 1) c')
        have hFS : Fr [w.heap.size + 2] w5 (w5.setCell ⟨w.heap.size + 2, 0, none⟩ (.slice A' (os.length + 1) c')) := (Fr.refl _ _).setCell (.inl (by simp)) _
        have ho6 := hFS.own HO5.out (fun g hg => by have := (HO5.out.lt g hg).1; simp; omega)
        generalize w5.setCell ⟨w.heap.size + 2, 0, none⟩ (.slice A' (os.length + 1) c') = w6 at h1 hFS ho6 ⊢
        have hV3 : ∀ g, (Value.slice vA os.length vc).ownBlock = some g → q + 4 ≤ g := fun g hg => (HO3.out.lt g hg).1
        have hF6 : Fr ((w.heap.size + 2) :: (Value.slice vA os.length vc).ownBlock.toList) w3 w6 := (HF5.out.mono (fun t ht => .inl (List.mem_cons_of_mem _ ht))).trans (hFS.mono (fun t ht => .inl (by simp at ht; simp [ht])))
        have hN : ∀ g, g < q + 4 → g ≠ w.heap.size + 2 → g ∉ (w.heap.size + 2) :: (Value.slice vA os.length vc).ownBlock.toList := fun g hg h2 hm => by
          rcases List.mem_cons.1 hm with hm | hm
          · exact h2 hm
          · have := hV3 g (by simpa using hm); omega
        have hN2 : ∀ o' : Value, (∀ g, o'.ownBlock = some g → q + 4 ≤ g) → (∀ g, o'.ownBlock = some g → (Value.slice vA os.length vc).ownBlock ≠ some g) → ∀ g, o'.ownBlock = some g → g ∉ (w.heap.size + 2) :: (Value.slice vA os.length vc).ownBlock.toList := fun o' h1 h2 g hg hm => by
          rcases List.mem_cons.1 hm with hm | hm
          · have := h1 g hg; omega
          · exact h2 g hg (by simpa using hm)
        have hO6 := HOO3.out.fr hF6 (fun a ha => hN2 (opO a) (HOB.out a ha) (own_ne (HOO3.out.own a ha) HO3.out (by decide)))
        have hD6 := hF6.own HD3.out (hN2 _ HDB.out (own_ne HD3.out HO3.out (by decide)))
        have hOO6 : OO w6 (q + 4) (os ++ [⟨k, A, D.length, d, D⟩]) := hO6.snoc hD6 ⟨rfl, hD38, hk⟩ HAP.out
        have hl6 := hF6.blk HL3.out (hN _ (by omega) (by omega))
        have hend := run_endRound (P := Try.prog) none hl6
        refine ⟨_, _, hend, ?_⟩
        rw [HPP.out]
        have hF7 := put_fr w6 (q + 3) (.loop R)
        have sz6 := hF6.size
        have hPut : w6.putObj (q + 3) (.loop { ({ R with state := .busy } : Loop) with state := if (none : Option Code).isNone = true then .ready else .done, pending := none }) = w6.putObj (q + 3) (.loop R) := by
          congr 2
        refine .inl ⟨HGM.out, rfl, ?_⟩
        rw [hPut]
        refine ⟨hF7.blk (hF6.blk HB0'.out (hN _ (by omega) (by omega))) (by simp; omega), hF7.blk (hF6.blk HB1'.out (hN _ (by omega) (by omega))) (by simp; omega), ⟨_, os ++ [⟨k, A, D.length, d, D⟩], hF7.blk h1 (by simp; omega), ?_, hOO6.fr hF7 (fun a ha g hg => ?_), ?_⟩, (HE3.out.fr hF6 (hN _ (by omega) (by omega)) (hN _ (by omega) (by omega))).fr hF7 (by simp; omega) (by simp; omega), hF7.blk (hF6.blk HFN3.out (hN _ (by omega) (by omega))) (by simp), hF7.blk (hF6.blk HBP3.out (hN _ (by omega) (by omega))) (by simp), hF7.blk (hF6.blk HHD3.out (hN _ (by omega) (by omega))) (by simp), World.putObj_heap_same (by omega), (HFR3.out.trans2 hF6 ?_).trans2 hF7 (fun t ht => .inr (by simp at ht; omega)), Nat.le_trans (by omega) hF7.size, hq⟩
        · rw [List.length_append, CO_snoc]
          exact hF7.own ho6 (fun g hg => by have := (HO5.out.lt g hg).1; simp; omega)
        · have := (hOO6.own a ha).lt g hg; simp; omega
        · rw [List.map_append, HM.out]; rfl
        · intro t ht
          right
          rcases List.mem_cons.1 ht with ht | ht
          · omega
          · have := hV3 t (by simpa using ht); omega
    have HR := Lib.hid hRec
    refine (parts1_in 4 (q + 3) A0 b o n c (q + 1) (by decide) hA0 xs hl hnc hc (by omega)
      (fun i W => i ≤ n ∧ ∃ gs pre, RdAt xs i gs pre ∧ pre.length ≤ i ∧ IRd w q R A0 n c gs pre W)
      (fun W => (∃ E : Nat, E ≠ 0 ∧ rdF [] xs = (E, []) ∧ IXd w q R E W) ∨ (∃ gs pre, rdF [] xs = (0, pre) ∧ IRd w q R A0 n c gs pre W))
      ?hK ?hKr ?hY ?hE ?hT ?hD W1 (blk1_cell hI1.bp) ⟨Nat.zero_le _, [], [], RdAt.zero xs, Nat.le_refl _, hI1⟩).mono ?_
    case hK =>
      rintro i W W' ⟨hi, gs, pre, h1, h2, h3⟩ hF
      exact ⟨hi, gs, pre, h1, h2, h3.fr' hF⟩
    case hKr =>
      rintro i W ⟨hi, gs, pre, h1, h2, h3⟩
      exact hrd.fr h3.fr (by simp)
    case hY =>
      rintro i W0 W A d ⟨hi, gs, pre, h1, h2, h3⟩ hF hlt hz h0 hown
      have hn0 : ¬ ((xs.drop i).length = 0 ∨ bt (xs.drop i) 0 = 0) := by rw [List.length_drop]; omega
      obtain ⟨_, hO⟩ := fir_split hn0 h0
      have hsz := fir_size (xs := xs.drop i) (by rw [List.length_drop]; omega) h0
      have hB := hBodyY gs pre (firK (xs.drop i)).1 d (firD (xs.drop i)) A W0 W h3 hF hown hO.len hO.1 (by omega)
      unfold FirV OV
      rw [h0]
      refine hB.mono ?_
      rintro e W' (⟨hg, rfl, hI⟩ | ⟨hg, rfl, hI⟩)
      · refine .inl ⟨rfl, ?_, _, _, h1.step hn0 h0 hg, ?_, hI⟩
        · rw [List.length_drop] at hsz; omega
        · rw [List.length_append, List.length_singleton]; omega
      · exact .inr ⟨rfl, .inl ⟨63, by decide, h1.err (by decide) (rdF_twice hn0 h0 hg), hI⟩⟩
    case hE =>
      rintro i W A d ⟨hi, gs, pre, h1, h2, h3⟩ hlt hz h0
      have hn0 : ¬ ((xs.drop i).length = 0 ∨ bt (xs.drop i) 0 = 0) := by rw [List.length_drop]; omega
      refine (hBodyE gs pre (firK (xs.drop i)).1 (firD (xs.drop i)).length d (firK (xs.drop i)).2.2 A W h3 h0).mono ?_
      rintro e W' ⟨hb, hX⟩
      exact ⟨hb, .inl ⟨_, h0, h1.err h0 (rdF_bad hn0 h0), hX⟩⟩
    case hT =>
      rintro i W ⟨hi, gs, pre, h1, h2, h3⟩ hend hany
      refine YieldAt.mono (hBodyE gs pre 0 0 0 62 none W h3 (by decide)) ?_
      rintro e W' ⟨hb, hX⟩
      exact ⟨hb, .inl ⟨62, by decide, h1.err (by decide) (by rw [rdF_end (by rw [List.length_drop]; omega), hany]; rfl), hX⟩⟩
    case hD =>
      rintro i W ⟨hi, gs, pre, h1, h2, h3⟩ hend hany
      exact .inr ⟨gs, pre, h1.done (by rw [List.length_drop]; omega) hany, h3⟩
    rintro e W2 ⟨⟨v0, rfl⟩, ⟨E, hE0, hrF, hI⟩ | ⟨gs, pre, hrF, hI⟩⟩
    · have hend := run_endLoop (P := Try.prog) hI.hl (by simp)
      obtain ⟨b0, b1, hd, hl4, fr, sz⟩ := hI
      simp only at hend
      have hF5 := put_fr W2 (q + 3) (.loop { R with state := .exhausted, pending := some .ret })
      generalize W2.putObj (q + 3) (.loop { R with state := .exhausted, pending := some .ret }) = W5 at hF5 hend
      have hhq := hI1.hq
      have hd6 := hF5.blk hd (by simp)
      have hF7 := put_fr W5 (q + 2) (.deferred none)
      have q2 : (W5.putObj (q + 2) (.deferred none)).cell? ⟨w.heap.size, 0, none⟩ = some (.slice none 0 0) := blk1_cell (hF7.blk (hF5.blk b0 (by simp; omega)) (by simp; omega))
      have q3 : (W5.putObj (q + 2) (.deferred none)).cell? ⟨w.heap.size + 1, 0, none⟩ = some (.int .i64 E) := blk1_cell (hF7.blk (hF5.blk b1 (by simp; omega)) (by simp; omega))
      refine ⟨some .ret, W5, hend, ?_⟩
      have HRF := Lib.hid hrF
      have HE0 := Lib.hid hE0
      clear hend hRec HR hBodyE hBodyY hI1 b0 b1 hl4 hd hrF hE0
      simp only
      gi_wp2
      refine ⟨by simp, .inl ⟨_, _, rfl, run_takeDeferred hd6, ?_⟩⟩
      generalize W5.putObj (q + 2) (.deferred none) = W7 at hF7 q2 q3 ⊢
      refine ⟨_, res6_any _ _ w.heap.size (w.heap.size + 1) (.slice none 0 0) (.int .i64 E) rfl rfl q2 q3, ?_⟩
      have hF67 : Fr [] w W7 := (fr.trans2 hF5 (fun t ht => .inr (by simp at ht; omega))).trans2 hF7 (fun t ht => .inr (by simp at ht; omega))
      exact ⟨hF67, .inl ⟨E, HE0.out, HRF.out, rfl⟩⟩
    · have hst : R.state = .ready := by rw [← HR.out]
      have hpd : R.pending = none := by rw [← HR.out]
      have hend := run_endLoop (P := Try.prog) hI.hl (by rw [hst]; simp)
      rw [hpd] at hend
      have hF5 := put_fr W2 (q + 3) (.loop { R with state := .exhausted, pending := none })
      clear hRec
      obtain ⟨b0, b1, ⟨v, os, b2, ho, hO, hm⟩, ex, fnn, bp, hd, _, fr, sz, hhq⟩ := hI
      replace hend : (Instr.endLoop (q + 3)).run Try.prog W2 = .ok none (W2.putObj (q + 3) (.loop { R with state := .exhausted, pending := none })) := by rw [hend, ← hpd]
      generalize W2.putObj (q + 3) (.loop { R with state := .exhausted, pending := none }) = W5 at hF5 hend
      replace b0 := hF5.blk b0 (by simp; omega)
      replace b1 := hF5.blk b1 (by simp; omega)
      replace b2 := hF5.blk b2 (by simp; omega)
      replace hd := hF5.blk hd (by simp)
      replace hO := hO.fr hF5 (fun a ha g hg => by have := ((hO.own a ha).lt g hg).1; simp; omega)
      replace ho := hF5.own ho (fun g hg => by have := (ho.lt g hg).1; simp; omega)
      replace fr : Fr [] w W5 := fr.trans2 hF5 (fun t ht => .inr (by simp at ht; omega))
      obtain ⟨vA, vc, rfl, _, _, _⟩ := own_slice ho
      have c2 := blk1_cell b0
      have c3 := blk1_cell b1
      have c4 := blk1_cell b2
      have f2 := blk1_fz b0
      have f3 := blk1_fz b1
      refine ⟨none, W5, hend, ?_⟩
      have HB0 := Lib.hid b0
      have HB1 := Lib.hid b1
      have HD := Lib.hid hd
      have HO := Lib.hid ho
      have HOO := Lib.hid hO
      have HM := Lib.hid hm
      have HRF := Lib.hid hrF
      clear hend hF5 HR hBodyE hBodyY hI1 b0 b1 b2 hd ho hO hm hrF bp fnn ex hst hpd sz
      simp only
      gi_wp2
      have r0 := set1_new HB0.out (u := .slice vA os.length vc)
      have hF6 : Fr [w.heap.size, w.heap.size + 1] W5 ((W5.setCell ⟨w.heap.size, 0, none⟩ (.slice vA os.length vc)).setCell ⟨w.heap.size + 1, 0, none⟩ (.int .i64 0)) := ((Fr.refl _ _).setCell (.inl (by simp)) _).setCell (.inl (by simp)) _
      have r2 : ((W5.setCell ⟨w.heap.size, 0, none⟩ (.slice vA os.length vc)).setCell ⟨w.heap.size + 1, 0, none⟩ (.int .i64 0)).heap[w.heap.size]? = some (.cells #[.slice vA os.length vc] 24 (0, 0)) := by
        simp [World.setCell, Array.getElem?_modify, HB0.out]
      have r3 : ((W5.setCell ⟨w.heap.size, 0, none⟩ (.slice vA os.length vc)).setCell ⟨w.heap.size + 1, 0, none⟩ (.int .i64 0)).heap[w.heap.size + 1]? = some (.cells #[.int .i64 0] 28 (0, 0)) := by
        simp [World.setCell, Array.getElem?_modify, HB1.out]
      generalize (W5.setCell ⟨w.heap.size, 0, none⟩ (.slice vA os.length vc)).setCell ⟨w.heap.size + 1, 0, none⟩ (.int .i64 0) = W6 at hF6 r2 r3 ⊢
      have hd6 := hF6.blk HD.out (by simp; omega)
      have hF7 := put_fr W6 (q + 2) (.deferred none)
      have hF67 : Fr [w.heap.size, w.heap.size + 1, q + 2] W5 (W6.putObj (q + 2) (.deferred none)) := (hF6.mono (fun t ht => .inl (by simp at ht ⊢; omega))).trans (hF7.mono (fun t ht => .inl (by simp at ht ⊢; omega)))
      have ho7 := hF67.own HO.out (fun g hg => by have := (HO.out.lt g hg).1; simp; omega)
      have hO7 := HOO.out.fr hF67 (fun a ha g hg => by have := ((HOO.out.own a ha).lt g hg).1; simp; omega)
      have q2 : (W6.putObj (q + 2) (.deferred none)).cell? ⟨w.heap.size, 0, none⟩ = some (.slice vA os.length vc) := blk1_cell (hF7.blk r2 (by simp; omega))
      have q3 : (W6.putObj (q + 2) (.deferred none)).cell? ⟨w.heap.size + 1, 0, none⟩ = some (.int .i64 0) := blk1_cell (hF7.blk r3 (by simp; omega))
      refine ⟨by simp, .inl ⟨_, _, rfl, run_takeDeferred hd6, ?_⟩⟩
      generalize W6.putObj (q + 2) (.deferred none) = W7 at hF67 ho7 hO7 q2 q3 ⊢
      refine ⟨_, res6_any _ _ w.heap.size (w.heap.size + 1) (.slice vA os.length vc) (.int .i64 0) rfl rfl q2 q3, ?_⟩
      exact ⟨fr.trans2 hF67 (fun t ht => .inr (by simp at ht; omega)), .inr ⟨os, vA, vc, by rw [HM.out]; exact HRF.out, rfl, own_ext ho7 (by omega), hO7.ext (by omega)⟩⟩
/-- What is read of some bytes: what is wrong, and the options. -/
def rdN (xs : List UInt8) : Nat × List (Nat × List UInt8) := if 40 < xs.length then (3, []) else rdF [] xs
def RedP6 (xs : List UInt8) (w : World) (e : Ending) (W' : World) : Prop :=
  Fr [] w W' ∧ ((∃ E : Nat, E ≠ 0 ∧ rdN xs = (E, []) ∧ e = .returned (.tuple #[.slice none 0 0, .int .i64 E])) ∨
    ∃ (os : List Opt) (A : Option Addr) (c : Nat), rdN xs = (0, os.map pr) ∧ e = .returned (.tuple #[.slice A os.length c, .int .i64 0]) ∧ W'.ownsRow w.heap.size 35 2 (.slice A os.length c) os.length (CO os) ∧ OO W' w.heap.size os)
set_option maxHeartbeats 1000000 in
theorem read_long (A : Option Addr) (n c : Nat) (w : World) (hn : 40 < n) :
    Calls Try.prog 12 #[.slice A n c] w fun e w' => e = .returned (.tuple #[.slice none 0 0, .int .i64 3]) ∧ Fr [] w w' := by
  have i40 : (40 : Int) < (n : Int) := by omega
  have hF : Fr [] w ((w.alloc (.cells #[.slice none 0 0] 24)).alloc (.cells #[.int .i64 0] 28)) := ((Fr.refl _ _).alloc _).alloc _
  have b2 : ((w.alloc (.cells #[.slice none 0 0] 24)).alloc (.cells #[.int .i64 0] 28)).heap[w.heap.size]? = some (.cells #[.slice none 0 0] 24 (0, 0)) := ((Fr.refl [] _).alloc _).blk (heap_alloc_new w _) (by simp)
  have b3 : ((w.alloc (.cells #[.slice none 0 0] 24)).alloc (.cells #[.int .i64 0] 28)).heap[w.heap.size + 1]? = some (.cells #[.int .i64 0] 28 (0, 0)) := by
    rw [← World.size_alloc w (.cells #[.slice none 0 0] 24)]; exact heap_alloc_new _ _
  have c2 := blk1_cell b2
  have c3 := blk1_cell b3
  have f2 := blk1_fz b2
  have f3 := blk1_fz b3
  have HN := Lib.hid hn
  have HB2 := Lib.hid b2
  have HB3 := Lib.hid b3
  clear hn b2 b3
  go_enter Try.func12, Try.ntmps12
  go_wp2
  have q2 : ((w.alloc (.cells #[.slice none 0 0] 24)).alloc (.cells #[.int .i64 3] 28)).cell? ⟨w.heap.size, 0, none⟩ = some (.slice none 0 0) := blk1_cell (((Fr.refl [] _).alloc _).blk (heap_alloc_new w (.cells #[.slice none 0 0] 24)) (by simp))
  have q3 : ((w.alloc (.cells #[.slice none 0 0] 24)).alloc (.cells #[.int .i64 3] 28)).cell? ⟨w.heap.size + 1, 0, none⟩ = some (.int .i64 3) := by
    rw [← World.size_alloc w (.cells #[.slice none 0 0] 24)]; exact blk1_cell (heap_alloc_new _ _)
  exact bodyPost_ret (v := .tuple #[.slice none 0 0, .int .i64 3]) (res6_any _ _ w.heap.size (w.heap.size + 1) _ _ rfl rfl q2 q3) rfl ⟨rfl, ((Fr.refl _ _).alloc _).alloc _⟩
theorem read_any (A : Option Addr) (n c : Nat) (xs : List UInt8) (w : World) (hl : xs.length = n) (hrd : Rd w A (B8 xs)) (hnil : A = none → c = 0) (hnc : n ≤ c) (hc : c ≤ 9223372036854775807) :
    Calls Try.prog 12 #[.slice A n c] w (RedP6 xs w) := by
  by_cases h : 40 < n
  · refine (read_long A n c w h).mono ?_
    rintro e w' ⟨rfl, hF⟩
    exact ⟨hF, .inl ⟨3, by decide, by unfold rdN; rw [if_pos (by omega)], rfl⟩⟩
  · have e : rdN xs = rdF [] xs := by unfold rdN; rw [if_neg (by omega)]
    unfold RedP6
    rw [e]
    cases A with
    | none =>
      obtain rfl := hnil rfl
      obtain rfl : n = 0 := by omega
      obtain rfl : xs = [] := List.eq_nil_of_length_eq_zero hl
      exact callsIn_wide.1 (read_in none 0 0 0 0 (fun h => absurd h (by decide)) [] w rfl (Rd.nil _ _) (Nat.le_refl _) (by decide) (by decide))
    | some a =>
      by_cases h0 : n = 0
      · subst h0
        obtain rfl : xs = [] := List.eq_nil_of_length_eq_zero hl
        exact callsIn_wide.1 (read_in (some a) 0 0 0 c (fun h => absurd h (by decide)) [] w rfl (Rd.nil _ _) hnc hc (by decide))
      · obtain ⟨b, o, ha⟩ := rd_addr8 hrd (by omega)
        rw [ha] at hrd ⊢
        exact callsIn_wide.1 (read_in (some ⟨b, o, none⟩) b o n c (fun _ => rfl) xs w hl hrd hnc hc (by omega))
end Go.Proofs.Ytekhjpiopbkoaaa
