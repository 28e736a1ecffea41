/- append and make, said once for any element type; sources may be nil. -/
import Derived.Test.YtekhjpiopbkoaaaBase
import Derived.Maps.AppendAt
import Derived.Laws.CopyRow
namespace Go.Proofs.Ytekhjpiopbkoaaa
open Go.RowKit

/-- t is the type of slices of e, whose values have so many cells and bytes. -/
structure El (P : Program) (t e : TypeId) (size bytes : Nat) : Prop where
  ht : P.underlying t = some (.slice e)
  hi : ∃ i z, P.info? e = some i ∧ i.zero = some z ∧ i.size = size ∧ i.bytes = bytes ∧ z.cells.size = size
  hsz : 0 < size

theorem El.of {P : Program} {t e : TypeId} {z : Value} {size bytes : Nat} (ht : P.underlying t = some (.slice e)) (h : (P.info? e).map (fun i => (i.zero, i.size, i.bytes)) = some (some z, size, bytes)) (hc : z.cells.size = size) (hsz : 0 < size) : El P t e size bytes := by
  refine ⟨ht, ?_, hsz⟩
  obtain ⟨i, hi, h1, h2, h3⟩ := info_parts h
  exact ⟨i, z, hi, h1, h2, h3, hc⟩

section
variable {P : Program} {t e : TypeId} {size bytes : Nat}

theorem app_run (E : El P t e size bytes) (w : World) (base : Nat) (ty : TypeId) (v : Value) (n : Nat) (xs : List Value) (hown : w.ownsRow base e size v n xs)
    (A : Option Addr) (m c : Nat) (news : List Value) (hl : news.length = m * size) (hrd : Rd w A news) (h1 : ∀ u ∈ news, u.oneCell' = true) (hnil : A = none → c = 0)
    (h63 : n + m ≤ maxLen) (hbytes : (n + m) * bytes ≤ 140737488355328) (hbase : base ≤ w.heap.size) :
    ∃ v' w', (Builtin.append_ #[t, t] ty #[v, .slice A m c]).run P w = .ok v' w' ∧ w'.ownsRow base e size v' (n + m) (xs ++ news) ∧ w.grownBy w' v.ownBlock ∧ (v'.ownBlock = v.ownBlock ∨ v'.ownBlock = some w.heap.size) := by
  obtain ⟨i, z, hi, hz, hs, hb, hzs⟩ := E.hi
  cases A with
  | some a =>
    obtain ⟨v', w', hr, h2, h3, _, h5⟩ := run_append_own_at (P := P) w base t ty e i z size bytes E.ht hi hz hs hb hzs E.hsz v n xs hown a m c news hl (fun j u hu => hrd.get hu) h1 h63 hbytes hbase
    exact ⟨v', w', hr, h2, h3, h5⟩
  | none =>
    obtain rfl := hnil rfl
    have hn : news = [] := by
      cases news with
      | nil => rfl
      | cons u _ => obtain ⟨_, h, _⟩ := hrd 0 u rfl; cases h
    subst hn
    have hm : m = 0 := by
      have h := hl
      simp only [List.length_nil] at h
      rcases Nat.eq_zero_or_pos m with h0 | h0
      · exact h0
      · have := Nat.mul_pos h0 E.hsz; omega
    subst hm
    exact ⟨v, w, run_append_owned_none w base t ty e i size E.ht hi v n xs hown, by simpa using hown, World.grownBy.refl _ _, .inl rfl⟩

theorem fr_grown {w w' : World} {v : Value} (h : w.grownBy w' v.ownBlock) : Fr v.ownBlock.toList w w' :=
  (Fr.refl _ w).grown h fun k hk => .inl (by simp [hk])

theorem zeroCells_one (z : Value) (n : Nat) : (Builtin.zeroCells #[z] n).toList = List.replicate n z := by
  apply List.ext_getElem
  · simp [Builtin.zeroCells]
  · intro i h1 h2
    simp [Builtin.zeroCells, Nat.mod_one]

theorem asInt_run (x : Int) (w : World) : (asInt (.int .i64 x)).run P w = .ok x w := by simp [asInt, asIntOf]
theorem zero_run {e : TypeId} {i : TypeInfo} {z : Value} (hi : P.info? e = some i) (hz : i.zero = some z) (w : World) : (zeroValue e).run P w = .ok z w := by simp [zeroValue, typeInfo, hi, hz]

/-- append(v, make([]T, m)...). -/
theorem zapp_run {ti : TypeId} {k : IntKind} {z : Value} (ht : P.underlying t = some (.slice e)) (hi0 : (P.info? e).map (fun i => (i.zero, i.size, i.bytes)) = some (some z, 1, bytes)) (hz1 : z.cells = #[z]) (hz2 : z.oneCell' = true) (hti : P.underlying ti = some (.int k)) (w : World) (base : Nat) (ty : TypeId)
    (v : Value) (n : Nat) (xs : List Value) (hown : w.ownsRow base e 1 v n xs) (m : Nat)
    (h63 : n + m ≤ maxLen) (hbytes : (n + m) * bytes ≤ 140737488355328) (hbase : base ≤ w.heap.size) :
    ∃ v' w', (Builtin.append_ #[t, ti] ty #[v, .int .i64 m]).run P w = .ok v' w' ∧ w'.ownsRow base e 1 v' (n + m) (xs ++ List.replicate m z) ∧ w.grownBy w' v.ownBlock ∧ (v'.ownBlock = v.ownBlock ∨ v'.ownBlock = some w.heap.size) := by
  obtain ⟨i, hi, hz, hs, hb⟩ := info_parts hi0
  subst hb
  have hml : n + m ≤ 9223372036854775807 := by simp only [maxLen] at h63; omega
  have hwm : IntKind.i64.wrap (m : Int) = m := IntWalk.i64_in _ (by omega)
  have hm0 : ¬ ((m : Int) < 0) := by omega
  have hw0 : IntKind.i64.wrap 0 = 0 := by decide
  have hmb : ¬ ((281474976710656 : Int) < (m : Int) * (i.bytes : Int)) := by
    have h1 : m * i.bytes ≤ (n + m) * i.bytes := Nat.mul_le_mul_right _ (by omega)
    have h2 : ((m * i.bytes : Nat) : Int) ≤ 140737488355328 := by omega
    rw [Int.natCast_mul] at h2
    omega
  have hlen : xs.length = n := by have := hown.1; omega
  have hnews : (Builtin.zeroCells z.cells m).toList = List.replicate m z := by rw [hz1, zeroCells_one]
  have hrep1 : ∀ u ∈ List.replicate m z, u.oneCell' = true := fun u hu => by rw [List.eq_of_mem_replicate hu]; exact hz2
  have grown : ∀ (old : Nat) (row : Option Nat), old < n + m →
      (w.drew.alloc (.cells (xs.toArray ++ (List.replicate m z).toArray ++ Builtin.zeroCells z.cells (grownCap w (n + m) old e - (n + m))) e)).ownsRow base e 1
        (.slice (some ⟨w.heap.size, 0, none⟩) (n + m) (grownCap w (n + m) old e)) (n + m) (xs ++ List.replicate m z) ∧
      w.grownBy (w.drew.alloc (.cells (xs.toArray ++ (List.replicate m z).toArray ++ Builtin.zeroCells z.cells (grownCap w (n + m) old e - (n + m))) e)) row := by
    intro old row ho
    have hge := grownCap_ge w (n + m) old e
    have hcm : grownCap w (n + m) old e ≤ maxLen := grownCap_le_maxLen w (n + m) old e h63
    refine ⟨⟨by simp [hlen], .inr ⟨w.heap.size, _, _, rfl, hbase, heap_alloc_new w.drew _, hge, hcm, ?_, ?_⟩⟩, ⟨rfl, rfl, rfl, by simp, fun k' hk _ => Below.heap_alloc w.drew _ k' hk⟩⟩
    · simp only [Array.size_append, List.size_toArray, size_zeroCells, hz1, hlen, List.length_replicate, List.size_toArray, List.length_cons, List.length_nil]
      omega
    · simp only [Array.toList_append, List.append_assoc]
      have hl2 : (n + m) * 1 = (xs ++ List.replicate m z).length := by simp [hlen]
      rw [hl2, ← List.append_assoc]
      exact List.take_left
  rcases hown.2 with ⟨rfl, rfl⟩ | ⟨g, cap, cur, rfl, hbg, hg, hnc, hcm, hcs, htake⟩
  · have hx : xs = [] := List.eq_nil_of_length_eq_zero hlen
    subst hx
    by_cases hm : m = 0
    · subst hm
      refine ⟨.slice none 0 0, w, ?_, by simpa using World.ownsRow_nil w base e 1, World.grownBy.refl _ _, .inl rfl⟩
      simp [Builtin.append_, run_underlying ht, run_underlying hti, sizeOf, typeInfo, hi, asInt_run, hw0]
    · have hn : ¬ (m ≤ 0) := by omega
      have h63' : ¬ (9223372036854775807 < (m : Int)) := by omega
      have h48 : ¬ (281474976710656 < Builtin.nextslicecap m 0 * i.bytes) := by
        have := growslice_fits (need := m) (old := 0) (bytes := i.bytes) (by omega) (by simpa using hbytes)
        omega
      obtain ⟨hgr, hgb⟩ := grown 0 (Value.ownBlock (.slice none 0 0)) (by omega)
      simp only [Nat.zero_add, List.nil_append, Array.empty_append] at hgr hgb ⊢
      refine ⟨_, _, ?_, hgr, hgb, .inr rfl⟩
      have hzz : Builtin.zeroCells #[z] m = Array.replicate m z := by apply Array.ext'; rw [zeroCells_one]; simp
      simp [Builtin.append_, run_underlying ht, run_underlying hti, sizeOf, zeroValue, typeInfo, hi, hz, asInt_run, hwm, hm0, hmb, hm, h63', h48, Question.forced, Builtin.firstCells, newRow, grownCap, hs, hz1, hzz]
  · by_cases hroom : n + m ≤ cap
    · have hfit : n * 1 + (List.replicate m z).length ≤ cur.size := by simp; omega
      have hst := run_storeCells_at P g n e (List.replicate m z) 0 cur w hg (by simpa using hfit) hrep1
      simp only [Nat.add_zero] at hst
      refine ⟨.slice (some ⟨g, 0, none⟩) (n + m) cap, _, ?_, ⟨by simp [hlen], .inr ⟨g, cap, _, rfl, hbg, setRow_heap w g cur (cur.toList.take n ++ List.replicate m z ++ cur.toList.drop (n + (List.replicate m z).length)).toArray e _ hg, hroom, hcm, ?_, ?_⟩⟩, ⟨rfl, rfl, rfl, by simp, fun k _ hk => setRow_other w g k _ (fun e => hk (by simp [Value.ownBlock, e]))⟩, .inl rfl⟩
      · by_cases hm : m = 0
        · subst hm
          simp [Builtin.append_, run_underlying ht, run_underlying hti, sizeOf, typeInfo, hi, asInt_run, hw0, hnc, storeCells]
          exact (setRow_self w g cur e (0, 0) hg).symm
        · have hzz : Builtin.zeroCells #[z] m = Array.replicate m z := by apply Array.ext'; rw [zeroCells_one]; simp
          have hst' := hst
          simp only [List.length_replicate] at hst'
          simp [Builtin.append_, run_underlying ht, run_underlying hti, sizeOf, zeroValue, typeInfo, hi, hz, asInt_run, hwm, hm0, hmb, hm, hroom, hs, hz1, hzz, Addr.add_lit, hst']
      · simp only [List.size_toArray, List.length_append, List.length_take, List.length_drop, Array.length_toList, List.length_replicate]
        omega
      · have h2 : n * 1 = n := Nat.mul_one n
        rw [h2] at htake
        have hl2 : (n + m) * 1 = (xs ++ List.replicate m z).length := by simp [hlen]
        rw [htake, hl2]
        exact List.take_left
    · have hm : m ≠ 0 := by omega
      have h63' : ¬ (9223372036854775807 < (n : Int) + (m : Int)) := by omega
      have h48 : ¬ (281474976710656 < Builtin.nextslicecap (n + m) cap * i.bytes) := by
        have := growslice_fits (need := n + m) (old := cap) (bytes := i.bytes) (by omega) hbytes
        omega
      obtain ⟨hgr, hgb⟩ := grown cap (Value.ownBlock (.slice (some ⟨g, 0, none⟩) n cap)) (by omega)
      refine ⟨_, _, ?_, hgr, hgb, .inr rfl⟩
      have hzz : Builtin.zeroCells #[z] m = Array.replicate m z := by apply Array.ext'; rw [zeroCells_one]; simp
      have holds : ∀ j u, xs[j]? = some u → w.cell? ((⟨g, 0, none⟩ : Addr).add j) = some u := hown.cells (g := g) rfl
      have hfo := run_firstCells_some (P := P) w.drew 1 n ⟨g, 0, none⟩ n cap xs (by simpa using hlen) (by simpa using holds)
      simp [Builtin.append_, run_underlying ht, run_underlying hti, sizeOf, zeroValue, typeInfo, hi, hz, asInt_run, hwm, hm0, hmb, hm, hroom, h63', h48, Question.forced, hfo, newRow, grownCap, hs, hz1, hzz]

/-- At the operation: the run that was laid ahead. -/
theorem wpList_app {ops : Array Oper} {rest : List Oper} {o : Oper} {a : Act} {w : World} {Q : Exit → Act → World → Prop} (hgd : o.guard = none) (s x : Operand) (t2 : TypeId)
    (ho : o.op = .call { callee := .builtin .append, args := #[s, x], argTypes := #[t, t2] }) {v xv v' : Value} {w' : World}
    (hr : (Builtin.append_ #[t, t2] o.type #[v, xv]).run P w = .ok v' w') (hs : a.eval s = v) (hx : a.eval x = xv)
    (h : wpList P ops Q rest (a.put o.dst v') w') : wpList P ops Q (o :: rest) a w := by
  refine wpList_plain hgd fun K hK => ?_
  unfold Oper.wp execOp
  simp only [ho, resolve, invoke, builtin, Sem.run_bind, Sem.run_pure, Result.andThen_ok, List.map_toArray, List.map_cons, List.map_nil, hs, hx, hr]
  exact hK _ _ h
/-- The same as a step of a region that draws its order. -/
theorem step_app {ops : Array Oper} {o : Oper} {a : Act} {w : World} {K : Act → World → Prop} {Q : Exit → Act → World → Prop} {E : Prop} (hgd : o.guard = none) (s x : Operand) (t2 : TypeId)
    (ho : o.op = .call { callee := .builtin .append, args := #[s, x], argTypes := #[t, t2] }) {v xv v' : Value} {w' : World}
    (hr : (Builtin.append_ #[t, t2] o.type #[v, xv]).run P w = .ok v' w') (hs : a.eval s = v) (hx : a.eval x = xv)
    (h : K (a.put o.dst v') w') : if Region.wanted o (yielded ops a.tmps) = true then Oper.wp P o a w K Q else E := by
  have hw : Region.wanted o (yielded ops a.tmps) = true := by simp [Region.wanted, hgd]
  rw [if_pos hw]
  unfold Oper.wp execOp
  simp only [ho, resolve, invoke, builtin, Sem.run_bind, Sem.run_pure, Result.andThen_ok, List.map_toArray, List.map_cons, List.map_nil, hs, hx, hr]
  exact h
/-- copy as a step of a region that draws its order: the run that was laid ahead. -/
theorem step_cp {ops : Array Oper} {o : Oper} {a : Act} {w : World} {K : Act → World → Prop} {Q : Exit → Act → World → Prop} {E : Prop} (hgd : o.guard = none) (s x : Operand) (t1 t2 : TypeId)
    (ho : o.op = .call { callee := .builtin .copy, args := #[s, x], argTypes := #[t1, t2] }) {v xv v' : Value} {w' : World}
    (hr : (Builtin.copy_ #[t1, t2] o.type #[v, xv]).run P w = .ok v' w') (hs : a.eval s = v) (hx : a.eval x = xv)
    (h : K (a.put o.dst v') w') : if Region.wanted o (yielded ops a.tmps) = true then Oper.wp P o a w K Q else E := by
  have hw : Region.wanted o (yielded ops a.tmps) = true := by simp [Region.wanted, hgd]
  rw [if_pos hw]
  unfold Oper.wp execOp
  simp only [ho, resolve, invoke, builtin, Sem.run_bind, Sem.run_pure, Result.andThen_ok, List.map_toArray, List.map_cons, List.map_nil, hs, hx, hr]
  exact h

/-- copy(v[k:], x) of one-cell elements within an owned row. -/
theorem copy_run {e : TypeId} (hu : P.underlying t = some (.slice e)) (hsz : (P.info? e).map (·.size) = some 1) (w : World) (ty : TypeId) {base g n c k : Nat} {xs news : List Value} (hown : w.ownsRow base e 1 (.slice (some ⟨g, 0, none⟩) n c) n xs)
    (ad : Addr) (m cc dc : Nat) (hl : news.length = m) (hrd : Rd w (some ad) news) (h1 : ∀ u ∈ news, u.oneCell' = true) (hk : k + m ≤ n) :
    ∃ w', (Builtin.copy_ #[t, t] ty #[.slice (some ⟨g, k, none⟩) (n - k) dc, .slice (some ad) m cc]).run P w = .ok (goInt m) w' ∧ w'.ownsRow base e 1 (.slice (some ⟨g, 0, none⟩) n c) n (splice xs k news) ∧ Fr [g] w w' := by
  have hxl := hown.1
  rcases hown.2 with ⟨h, _⟩ | ⟨g', cap, cur, h, hb, hg, hnc, hcm, hcs, htake⟩
  · simp at h
  · simp only [Value.slice.injEq, Option.some.injEq, Addr.mk.injEq, and_true, true_and] at h
    obtain ⟨rfl, rfl⟩ := h
    have hmin : news.length = Nat.min m (n - k) := by rw [hl]; exact (Nat.min_eq_left (by omega)).symm
    have hrun := run_copy_row (P := P) w t t ty e g k (n - k) dc ad m cc cur e news hu hsz hg hmin (fun j v hj => hrd.get hj) (by omega) h1
    rw [hl] at hrun
    refine ⟨_, hrun, ⟨by rw [length_splice _ _ _ (by omega)]; exact hxl, .inr ⟨g, c, _, rfl, hb, setRow_heap w g cur _ e _ hg, hnc, hcm, ?_, ?_⟩⟩, (Fr.refl _ w).setRow (.inl (by simp)) _⟩
    · simp only [List.size_toArray, List.length_append, List.length_take, List.length_drop, Array.length_toList]
      omega
    · rw [← htake]
      unfold splice
      simp only [Nat.mul_one] at *
      have e1 : List.take k (List.take n cur.toList) = List.take k cur.toList := by rw [List.take_take]; congr 1; omega
      have e2 : List.drop (k + news.length) (List.take n cur.toList) = List.take (n - (k + news.length)) (List.drop (k + news.length) cur.toList) := by rw [List.drop_take]
      have hlen : cur.toList.length = cur.size := Array.length_toList
      have e3 : n = (List.take k cur.toList ++ news).length + (n - (k + news.length)) := by simp only [List.length_append, List.length_take]; omega
      subst hl
      rw [e1, e2, ← List.append_assoc, List.take_append]
      have e4 : (List.take k cur.toList ++ news).length = k + news.length := by simp only [List.length_append, List.length_take]; omega
      rw [e4, List.take_of_length_le (by omega)]
end
end Go.Proofs.Ytekhjpiopbkoaaa
