/- flatBytes: slices in rows of their own share no memory. -/
import Derived.Test.YtdkpmbefnfdbkaaMk
namespace Go.Proofs.Ytdkpmbefnfdbkaa
open Go.RowKit

/-- v owns its row, which begins with these bytes. -/
def Ow (w : World) (v : Value) (n : Nat) (xs : List UInt8) : Prop := w.ownsRow 0 5 1 v n (B8 xs)
theorem Ow.fr {w w' : World} {S : List Nat} {v : Value} {n : Nat} {xs : List UInt8} (h : Ow w v n xs) (hf : Fr S w w') (hS : ∀ b, v.ownBlock = some b → b ∉ S) : Ow w' v n xs := hf.own h hS
theorem Ow.len {w : World} {v : Value} {n : Nat} {xs : List UInt8} (h : Ow w v n xs) : xs.length = n := by have := h.1; rw [B8_length] at this; omega
theorem Ow.lt {w : World} {v : Value} {n : Nat} {xs : List UInt8} (h : Ow w v n xs) {b : Nat} (hb : v.ownBlock = some b) : b < w.heap.size := (World.ownsRow.lt h b hb).2
theorem Ow.of {w : World} {base : Nat} {v : Value} {n : Nat} {xs : List UInt8} (h : w.ownsRow base 5 1 v n (B8 xs)) : Ow w v n xs := own_ext h (Nat.zero_le _)

/-- What flatBytes is given: K slices, each in a row of its own, in K cells. -/
structure FlIn (w : World) (K gl ol : Nat) (V : Nat → Value) (n : Nat → Nat) : Prop where
  hK : K ≤ 1000
  hn : ∀ j, j < K → n j ≤ 140737488355000
  own : ∀ j, j < K → ∃ xs, Ow w (V j) (n j) xs
  dis : ∀ i j, i < K → j < K → i ≠ j → ∀ b, (V i).ownBlock = some b → (V j).ownBlock ≠ some b
  ls : ∀ j, j < K → w.cell? ⟨gl, ol + j, none⟩ = some (V j)
  gl : ∀ j, j < K → (V j).ownBlock ≠ some gl
/-- The slices' blocks. -/
def Sv (K : Nat) (V : Nat → Value) : List Nat := (List.range K).filterMap fun j => (V j).ownBlock
theorem mem_Sv {K : Nat} {V : Nat → Value} {b : Nat} : b ∈ Sv K V ↔ ∃ j, j < K ∧ (V j).ownBlock = some b := by simp [Sv]

section
variable {w : World} {K gl ol : Nat} {V : Nat → Value} {n : Nat → Nat}
theorem FlIn.gl_Sv (h : FlIn w K gl ol V n) : gl ∉ Sv K V := by
  rw [mem_Sv]
  rintro ⟨j, hj, e⟩
  exact h.gl j hj e
theorem FlIn.sub (_ : FlIn w K gl ol V n) {k : Nat} (hk : k < K) : ∀ t ∈ (V k).ownBlock.toList, t ∈ Sv K V := by
  intro t ht
  rw [mem_Sv]
  exact ⟨k, hk, by simpa using ht⟩
theorem FlIn.cell (h : FlIn w K gl ol V n) {W : World} (hf : Fr (Sv K V) w W) {j : Nat} (hj : j < K) : W.cell? ⟨gl, ol + j, none⟩ = some (V j) := hf.cell (h.ls j hj) h.gl_Sv
theorem FlIn.other (h : FlIn w K gl ol V n) {i k b : Nat} (hi : i < K) (hk : k < K) (hne : i ≠ k) (hb : (V i).ownBlock = some b) : b ∉ (V k).ownBlock.toList := by
  intro hc
  exact h.dis i k hi hk hne b hb (by simpa using hc)
theorem FlIn.form (h : FlIn w K gl ol V n) {j : Nat} (hj : j < K) : ∃ A c, V j = .slice A (n j) c := by
  obtain ⟨xs, hx⟩ := h.own j hj
  exact own_sl hx
end

theorem stepA {w W0 wr : World} {K gl ol k : Nat} {V : Nat → Value} {n : Nat → Nat} (h : FlIn w K gl ol V n) (hk : k < K) (hA : ∀ j, j < K → ∃ xs, Ow W0 (V j) (n j) xs ∧ (j < k → xs = mks j (n j)))
    (hF : Fr (V k).ownBlock.toList W0 wr) (hO : Ow wr (V k) (n k) (mks k (n k))) : ∀ j, j < K → ∃ xs, Ow wr (V j) (n j) xs ∧ (j < k + 1 → xs = mks j (n j)) := by
  intro j hj
  by_cases e : j = k
  · subst e; exact ⟨_, hO, fun _ => rfl⟩
  · obtain ⟨xs, hx, hm⟩ := hA j hj
    exact ⟨xs, hx.fr hF (fun b hb => h.other hj hk e hb), fun hc => hm (by omega)⟩
theorem infoL : (Try.prog.info? 22).map (fun i => (i.zero, i.size, i.bytes)) = some (some (.slice none 0 0), 1, 24) := by kernel_rfl
theorem make_gs (K : Nat) (hK : K ≤ 1000) (w : World) : ∃ w', Sem.run Try.prog (Instr.makeSlice 52 (Value.int IntKind.i64 K) (Value.int IntKind.i64 K)) w = .ok (.slice (some ⟨w.heap.size, 0, none⟩) K K) w' ∧
    (∃ Gs, w'.ownsRow 0 22 1 (.slice (some ⟨w.heap.size, 0, none⟩) K K) K Gs) ∧ Fr [] w w' := by
  obtain ⟨i0, hi, hz0, hz1, hz2⟩ := info_parts infoL
  obtain ⟨w', hm, ho, hg⟩ := run_make_full (P := Try.prog) w 0 52 22 i0 (.slice none 0 0) 1 Try.underlying52 hi hz0 hz1 .i64 .i64 K (by rw [hz2]; omega) (by unfold maxLen; omega) (Nat.zero_le _)
  exact ⟨w', hm, ⟨_, ho⟩, (Fr.refl _ _).grown hg (by simp)⟩

theorem take_set {xs : List UInt8} {i k : Nat} (h : i < xs.length) (ht : xs.take i = mks k i) : (xs.set i (mk8 k i)).take (i + 1) = mks k (i + 1) := by
  rw [List.take_add_one, List.take_set_of_le (Nat.le_refl _), ht, mks_succ]
  simp [h]

/-- G is what slice V, of n elements, has become when i more have been appended. -/
structure InG (W0 : World) (V : Value) (n k i : Nat) (G : Value) (W : World) : Prop where
  g : Ow W G (n + i) (mks k (n + i))
  v : Ow W V n (mks k n)
  form : (∃ g c, V = .slice (some ⟨g, 0, none⟩) n c ∧ G = .slice (some ⟨g, 0, none⟩) (n + i) c) ∨ (∀ b, G.ownBlock = some b → W0.heap.size ≤ b)
  fr : Fr V.ownBlock.toList W0 W

/-- What becomes of V and of what was appended to it. -/
theorem out_two {W0 Wa W' : World} {V G v' : Value} {n m l : Nat} {xs ys : List UInt8} (hV0 : ∀ b, V.ownBlock = some b → b < W0.heap.size) (hV : Ow Wa V n xs) (hG : Ow W' v' (l + m) ys) (htk : ys.take n = xs) (hnl : n ≤ l + m) (ho : AppOut Wa W' G v' l m)
    (hform : (∃ g c, V = .slice (some ⟨g, 0, none⟩) n c ∧ G = .slice (some ⟨g, 0, none⟩) l c) ∨ (∀ b, G.ownBlock = some b → W0.heap.size ≤ b)) (hF : Fr V.ownBlock.toList W0 Wa) :
    Ow W' V n xs ∧ ((∃ g c, V = .slice (some ⟨g, 0, none⟩) n c ∧ v' = .slice (some ⟨g, 0, none⟩) (l + m) c) ∨ (∀ b, v'.ownBlock = some b → W0.heap.size ≤ b)) ∧ Fr V.ownBlock.toList W0 W' := by
  rcases ho with ⟨g, c, rfl, rfl, hFg⟩ | ⟨c, rfl, hFn⟩
  · rcases hform with ⟨g', c', rfl, hG'⟩ | hb
    · simp only [Value.slice.injEq, Option.some.injEq, Addr.mk.injEq, and_true, true_and] at hG'
      obtain ⟨rfl, rfl⟩ := hG'
      refine ⟨?_, .inl ⟨g, c, rfl, rfl⟩, hF.trans2 hFg (by simp [Value.ownBlock])⟩
      have h := own_cut (k := n) hG hnl
      rw [B8_take, htk] at h
      exact h
    · have hg := hb g rfl
      refine ⟨hV.fr hFg (fun b e => by have := hV0 b e; simp; omega), .inr (fun b e => by simp [Value.ownBlock] at e; omega), hF.trans2 hFg (by simp; exact .inr hg)⟩
  · have := hF.size
    exact ⟨hV.fr hFn (by simp), .inr (fun b e => by simp [Value.ownBlock] at e; omega), hF.trans2 hFn (by simp)⟩

theorem inG_step {W0 W : World} {V G : Value} {n k i : Nat} (h : InG W0 V n k i G W) (hn : n ≤ 140737488355000) (hi : i < 64) (hV0 : ∀ b, V.ownBlock = some b → b < W0.heap.size) :
    ∃ v' W', (Builtin.append_ #[22, 22] 22 #[G, .slice (some ⟨W.heap.size, 0, none⟩) 1 1]).run Try.prog (W.alloc (.cells #[.int .u8 (mk8 k (n + i)).toNat] 5)) = .ok v' W' ∧ InG W0 V n k (i + 1) v' W' := by
  obtain ⟨v', W', hr, ho, hout⟩ := app_two el8 (W.alloc (.cells #[.int .u8 (mk8 k (n + i)).toNat] 5)) 0 22 G (n + i) (B8 (mks k (n + i))) (World.ownsRow.alloc h.g _) ⟨W.heap.size, 0, none⟩ 1 1 (B8 [mk8 k (n + i)]) rfl (rd_new W _ _) (B8_one _) (by decide) (by unfold maxLen; omega) (by omega) (Nat.zero_le _)
  rw [← B8_append, ← mks_succ] at ho
  have hV : Ow (W.alloc (.cells #[.int .u8 (mk8 k (n + i)).toNat] 5)) V n (mks k n) := World.ownsRow.alloc h.v _
  obtain ⟨h1, h2, h3⟩ := out_two hV0 hV ho (mks_take (by omega)) (by omega) hout h.form (h.fr.alloc _)
  exact ⟨v', W', hr, ⟨ho, h1, h2, h3⟩⟩

/-- Between two rounds: the row gs, and what it holds so far. -/
def InvB (w : World) (K gg : Nat) (V : Nat → Value) (n : Nat → Nat) (Q : Nat → List UInt8 → Prop) (D : Nat → Prop) (W : World) : Prop :=
  ∃ Gs, W.ownsRow 0 22 1 (.slice (some ⟨gg, 0, none⟩) K K) K Gs ∧ (∀ j, j < K → Ow W (V j) (n j) (mks j (n j)) ∧ (D j → ∃ G ys, Gs[j]? = some G ∧ Ow W G (n j + 64) ys ∧ Q j ys ∧ (∀ b, G.ownBlock = some b → (V j).ownBlock = some b ∨ gg < b))) ∧ Fr (Sv K V) w W

theorem stepB {w W0 W : World} {K gl ol gg k : Nat} {V : Nat → Value} {n : Nat → Nat} {Q : Nat → List UInt8 → Prop} {D D' : Nat → Prop} {G : Value} {ys : List UInt8} (h : FlIn w K gl ol V n) (hk : k < K) (hB : InvB w K gg V n Q D W0) (hgg : w.heap.size ≤ gg)
    (hF : Fr (V k).ownBlock.toList W0 W) (hV : Ow W (V k) (n k) (mks k (n k))) (hG : Ow W G (n k + 64) ys) (hQ : Q k ys) (hb : ∀ b, G.ownBlock = some b → (V k).ownBlock = some b ∨ gg < b) (hD : ∀ j, j ≠ k → D' j → D j) :
    InvB w K gg V n Q D' (W.setCell ⟨gg, k, none⟩ G) := by
  obtain ⟨Gs, hgs, hA, hFw⟩ := hB
  have hlt : ∀ j, j < K → ∀ b, (V j).ownBlock = some b → b < w.heap.size := fun j hj b e => by
    obtain ⟨xs, hx⟩ := h.own j hj
    exact hx.lt e
  have hgk : gg ∉ (V k).ownBlock.toList := by
    intro hc
    have := hlt k hk gg (by simpa using hc)
    omega
  have hgs2 := hF.own hgs (by intro b e; injection e with e; subst e; exact hgk)
  have far : ∀ {v : Value} {m : Nat} {zs : List UInt8}, Ow W v m zs → v.ownBlock ≠ some gg → Ow (W.setCell ⟨gg, k, none⟩ G) v m zs := fun ho hne => ownsRow_setCell_other ho hne _
  refine ⟨Gs.set k G, own_set hgs2 k G, ?_, (hFw.trans2 hF fun t ht => .inl (h.sub hk t ht)).setCell (.inr hgg) _⟩
  have hgl := hgs.1
  intro j hj
  by_cases e : j = k
  · subst e
    refine ⟨far hV (fun c => by have := hlt j hj gg c; omega), fun _ => ⟨G, ys, by rw [List.getElem?_set_self (by omega)], far hG ?_, hQ, hb⟩⟩
    intro c
    rcases hb gg c with c2 | c2
    · have := hlt j hj gg c2; omega
    · omega
  · obtain ⟨h1, h2⟩ := hA j hj
    refine ⟨far (h1.fr hF (fun b hb => h.other hj hk e hb)) (fun c => by have := hlt j hj gg c; omega), fun hd => ?_⟩
    obtain ⟨G', ys', hg', ho', hq', hb'⟩ := h2 (hD j e hd)
    refine ⟨G', ys', by rw [List.getElem?_set_ne (fun c => e c.symm)]; exact hg', far (ho'.fr hF ?_) ?_, hq', hb'⟩
    · intro b hbb
      rcases hb' b hbb with c | c
      · exact h.other hj hk e c
      · intro c2
        have := hlt k hk b (by simpa using c2)
        omega
    · intro c
      rcases hb' gg c with c2 | c2
      · have := hlt j hj gg c2; omega
      · omega

theorem mk64 (w : World) : Sem.run Try.prog (Instr.makeSlice 22 (Value.int IntKind.i64 64) (Value.int IntKind.i64 64)) w = .ok (.slice (some ⟨w.heap.size, 0, none⟩) 64 64) (w.alloc (.cells (B8 (List.replicate 64 0)).toArray 5)) := by kernel_rfl
theorem many_row (w : World) : (∃ xs, Ow (w.alloc (.cells (B8 (List.replicate 64 0)).toArray 5)) (.slice (some ⟨w.heap.size, 0, none⟩) 64 64) 64 xs) ∧ Fr [] w (w.alloc (.cells (B8 (List.replicate 64 0)).toArray 5)) := by
  refine ⟨⟨List.replicate 64 0, ?_⟩, (Fr.refl _ _).alloc _⟩
  have h := World.ownsRow_lit (base := 0) (e := 5) (size := 1) w (B8 (List.replicate 64 0)).toArray 64 (Nat.zero_le _) (by decide) (by simp [B8])
  exact h
theorem take_get {ys : List UInt8} {k m i : Nat} (h : ys.take m = mks k m) (hi : i < m) : ys[i]? = some (mk8 k i) := by
  have h1 : (ys.take m)[i]? = some (mk8 k i) := by rw [h]; exact mks_get hi
  rwa [List.getElem?_take, if_pos hi] at h1

set_option maxRecDepth 100000 in
set_option maxHeartbeats 8000000 in
theorem flat_any {w : World} {K gl ol cl : Nat} {V : Nat → Value} {n : Nat → Nat} (h : FlIn w K gl ol V n) :
    Calls Try.prog 58 #[.slice (some ⟨gl, ol, none⟩) K cl] w fun e w' => e = .returned (.bool true) ∧ Fr (Sv K V) w w' := by
  have hK := h.hK
  go_enter Try.func58, Try.ntmps58
  go_wp2
  go_loopw [3, 4] (fun kk _ wr => ∃ k : Nat, k ≤ K ∧ kk = .int .i64 k ∧ (∀ j, j < K → ∃ xs, Ow wr (V j) (n j) xs ∧ (j < k → xs = mks j (n j))) ∧ Fr (Sv K V) w wr) (fun kk _ _ => K - (intOf kk).toNat)
  case atStart => exact ⟨0, Nat.zero_le _, rfl, fun j hj => (h.own j hj).imp fun xs hx => ⟨hx, fun hc => absurd hc (by omega)⟩, Fr.refl _ _⟩
  case round =>
    obtain ⟨k, hk, rfl, hA, hF⟩ := hrel
    have HA := Lib.hid hA
    clear hA
    by_cases hlt : k < K
    · have hcl := h.cell hF hlt
      have hnk := h.hn k hlt
      obtain ⟨nk, hnk2⟩ : ∃ m, m = n k := ⟨_, rfl⟩
      rw [← hnk2] at hnk
      have HN := Lib.hid hnk2
      clear hnk2
      have hkK : (0 : Int) ≤ (k : Int) ∧ (k : Int) < (K : Int) := by omega
      go_wp2
      obtain ⟨W0, hW0⟩ : ∃ W0 : World, W0 = wr := ⟨_, rfl⟩
      rw [← hW0] at hcl hF HA ⊢
      clear hW0
      go_loopw [4] (fun ii wr => ∃ i : Nat, i ≤ nk ∧ ii = .int .i64 i ∧ (∃ xs, Ow wr (V k) nk xs ∧ xs.take i = mks k i) ∧ Fr (V k).ownBlock.toList W0 wr) (fun ii _ => nk - (intOf ii).toNat)
      case atStart =>
        obtain ⟨xs, hx, -⟩ := HA.out k hlt
        rw [← HN.out] at hx
        exact ⟨0, Nat.zero_le _, rfl, ⟨xs, hx, by simp [mks]⟩, Fr.refl _ _⟩
      case round =>
        obtain ⟨i, hi, rfl, ⟨xs, hox, htk⟩, hFi⟩ := hrel
        have hcli := hFi.cell hcl (by have := h.gl k hlt; simpa using this)
        by_cases hil : i < nk
        · obtain ⟨g, c, hVg, _, hnc, _⟩ := own_some hox (by omega)
          have hxl := hox.len
          obtain ⟨x, hx0⟩ := (⟨_, List.getElem?_eq_getElem (by omega)⟩ : ∃ x, xs[i]? = some x)
          have HV := Lib.hid hVg
          have hox2 := hox
          rw [hVg] at hox2 hcli
          have hce := own_cell hox2 (j := i) (u := .int .u8 x.toNat) (by rw [B8_get, hx0]; rfl)
          have hfz := own_fz hox2 i
          have hO := own_set hox2 i (.int .u8 (mk8 k i).toNat)
          rw [B8_set _ i (mk8 k i) rfl] at hO
          have HO : Hid (Ow (wr.setCell ⟨g, i, none⟩ (.int .u8 (mk8 k i).toNat)) (V k) nk (xs.set i (mk8 k i))) := by show Ow _ _ _ _; rw [hVg]; exact hO
          have HT := Lib.hid (take_set (k := k) (by omega) htk)
          have hFs : Fr (V k).ownBlock.toList W0 (wr.setCell ⟨g, i, none⟩ (.int .u8 (mk8 k i).toNat)) := hFi.setCell (.inl (by rw [hVg]; simp [Value.ownBlock])) _
          have hi0 : (0 : Int) ≤ (i : Int) ∧ (i : Int) < (nk : Int) := by omega
          have hM := fun w => (markB_any k i k i rfl rfl (by omega) (by omega) w).mono fun _ _ h => (⟨h.1, h.2.symm⟩ : _ ∧ _ = _)
          clear hVg hox hox2 hO hx0 htk hFi
          go_wp2
          refine wp_region_still_tail 9 (by kernel_rfl) (by kernel_rfl) ?_
          simp only [List.take_succ_cons, List.take_zero, List.drop_succ_cons, List.drop_zero]
          repeat still_step
          still_call (hM _)
          repeat still_step
          refine wpStill_nil ?_
          change wpList _ _ _ _ _ (World.drewN wr 1)
          clear hM
          go_wp2
          go_roundw
          case rel => exact ⟨i + 1, by omega, by go_num, ⟨_, own_alk HO.out rfl, HT.out⟩, hFs.alk rfl rfl rfl rfl⟩
          case measure => simp [intOf]; omega
        · obtain rfl : i = nk := by omega
          obtain ⟨A, c, hVg⟩ := own_sl hox
          rw [hVg] at hcli
          have hxk : xs = mks k i := by rw [← htk, List.take_of_length_le (by rw [hox.len]; exact Nat.le_refl _)]
          rw [hxk] at hox
          have HOX := Lib.hid hox
          clear hVg hox htk hxk
          go_wp2
          go_roundw
          case rel => exact ⟨k + 1, by omega, by go_num, stepA h hlt HA.out hFi (by rw [← HN.out]; exact HOX.out), hF.trans2 hFi fun t ht => .inl (h.sub hlt t ht)⟩
          case measure => simp [intOf]; omega
    · obtain rfl : K = k := by omega
      have hV : ∀ j, j < K → Ow wr (V j) (n j) (mks j (n j)) := fun j hj => by
        obtain ⟨xs, hx, hm⟩ := HA.out j hj
        rw [← hm hj]; exact hx
      obtain ⟨wg, hmk, ⟨Gs, hgs⟩, hFg⟩ := make_gs K hK wr
      have hgw : w.heap.size ≤ wr.heap.size := hF.size
      have hgs1 : wr.heap.size < wg.heap.size := (hgs.lt _ rfl).2
      have hB0 : InvB w K wr.heap.size V n (fun j ys => ys = mks j (n j + 64)) (fun j => j < 0) wg := ⟨Gs, hgs, fun j hj => ⟨(hV j hj).fr hFg (by simp), fun hc => absurd hc (by omega)⟩, hF.trans hFg.nil⟩
      have HB0 := Lib.hid hB0
      have hgl := h.gl_Sv
      generalize hgge : wr.heap.size = gg at hgw hgs1 HB0 hmk
      clear hV HA hgs hB0 hF hFg hgge
      go_wp2
      go_loopw [6, 7, 8] (fun kk _ _ wr => ∃ k : Nat, k ≤ K ∧ kk = .int .i64 k ∧ InvB w K gg V n (fun j ys => ys = mks j (n j + 64)) (fun j => j < k) wr ∧ gg < wr.heap.size) (fun kk _ _ _ => K - (intOf kk).toNat)
      case atStart => exact ⟨0, Nat.zero_le _, rfl, HB0.out, hgs1⟩
      case round =>
        obtain ⟨k, hk, rfl, hB, hgs1⟩ := hrel
        have HB := Lib.hid hB
        clear hB HB0
        by_cases hlt : k < K
        · obtain ⟨W0, hW0⟩ : ∃ W0 : World, W0 = wr := ⟨_, rfl⟩
          rw [← hW0] at HB hgs1 ⊢
          clear hW0
          have hnk := h.hn k hlt
          obtain ⟨nk, hnk2⟩ : ∃ m, m = n k := ⟨_, rfl⟩
          rw [← hnk2] at hnk
          have HN := Lib.hid hnk2
          obtain ⟨hcl, hvo, hV0, ⟨Gs, hgs⟩⟩ : W0.cell? ⟨gl, ol + k, none⟩ = some (V k) ∧ Ow W0 (V k) nk (mks k nk) ∧ (∀ b, (V k).ownBlock = some b → b < w.heap.size) ∧ ∃ Gs, W0.ownsRow 0 22 1 (.slice (some ⟨gg, 0, none⟩) K K) K Gs := by
            obtain ⟨Gs, hgs, hA, hFw⟩ := HB.out
            refine ⟨h.cell hFw hlt, by rw [hnk2]; exact (hA k hlt).1, ?_, ⟨Gs, hgs⟩⟩
            obtain ⟨xs, hx⟩ := h.own k hlt
            exact fun b e => hx.lt e
          have hV1 : ∀ b, (V k).ownBlock = some b → b < W0.heap.size := fun b e => by have := hV0 b e; omega
          have hgk : gg ∉ (V k).ownBlock.toList := by
            intro hc
            have := hV0 gg (by simpa using hc)
            omega
          have hglk : gl ∉ (V k).ownBlock.toList := fun hc => hgl (h.sub hlt gl hc)
          obtain ⟨Ak, ck, hVf⟩ := own_sl hvo
          have HVF := Lib.hid hVf
          have hin : InG W0 (V k) nk k 0 (.slice Ak nk ck) W0 := by
            refine ⟨by rw [← hVf]; exact hvo, hvo, ?_, Fr.refl _ _⟩
            rcases hvo.2 with ⟨e, -⟩ | ⟨g, cap, cur, e, -⟩
            · exact .inr (fun b hb => by rw [hVf] at e; rw [e] at hb; cases hb)
            · exact .inl ⟨g, cap, e, by rw [← hVf, e]; rfl⟩
          have HIN := Lib.hid hin
          have hkK : (0 : Int) ≤ (k : Int) ∧ (k : Int) < (K : Int) := by omega
          rw [hVf] at hcl
          have HGS := Lib.hid hgs
          clear hnk2 hvo hVf hin hgs hV0
          go_wp2
          go_loopw [7, 8] (fun v ii wr => ∃ i : Nat, i ≤ 64 ∧ ii = .int .i64 i ∧ InG W0 (V k) nk k i v wr) (fun _ ii _ => 64 - (intOf ii).toNat)
          case atStart => exact ⟨0, Nat.zero_le _, rfl, HIN.out⟩
          case round =>
            obtain ⟨i, hi, rfl, hG⟩ := hrel
            have hcli := hG.fr.cell hcl hglk
            by_cases hil : i < 64
            · have hil' : (i : Int) < 64 := by omega
              obtain ⟨v', W', hr, hG'⟩ := inG_step hG hnk hil hV1
              have HG := Lib.hid hG'
              have hwn : IntKind.i64.wrap ((nk : Int) + (i : Int)) = (nk : Int) + (i : Int) := i64_i (by omega) (by omega)
              clear hG hG'
              go_wp2_with fail
              refine (markB_any _ _ k (nk + i) rfl (by omega) (by omega) (by omega) _).mono ?_
              rintro e w' ⟨rfl, rfl⟩
              go_wp2_with (at_builtin; refine wpList_app rfl _ _ _ rfl hr rfl rfl ?_)
              go_roundw
              case rel => exact ⟨i + 1, by omega, by go_num, HG.out⟩
              case measure => simp [intOf]; omega
            · obtain rfl : i = 64 := by omega
              obtain ⟨A6, c6, hGf⟩ := own_sl hG.g
              subst hGf
              have hgs2 := hG.fr.own HGS.out (by intro b e; injection e with e; subst e; exact hgk)
              obtain ⟨gv, hgv⟩ : ∃ gv, Gs[k]? = some gv := ⟨_, List.getElem?_eq_getElem (by have := hgs2.1; omega)⟩
              have hgc := own_cell hgs2 hgv
              have hgz := own_fz hgs2 k
              have hsz := hG.fr.size
              have hst : InvB w K gg V n (fun j ys => ys = mks j (n j + 64)) (fun j => j < k + 1) (wr.setCell ⟨gg, k, none⟩ (.slice A6 (nk + 64) c6)) := by
                refine stepB (ys := mks k (nk + 64)) h hlt HB.out hgw hG.fr (by rw [← HN.out]; exact hG.v) (by rw [← HN.out]; exact hG.g) (by rw [← HN.out]) ?_ (fun j hj hd => by omega)
                intro b e
                rcases hG.form with ⟨g, c, e1, e2⟩ | hb
                · rw [e2] at e; rw [e1]; exact .inl e
                · have := hb b e; exact .inr (by omega)
              have HST := Lib.hid hst
              clear hG hgs2 hgv hst
              go_wp2
              go_roundw
              case rel => exact ⟨k + 1, by omega, by go_num, HST.out, by simp [World.setCell]; omega⟩
              case measure => simp [intOf]; omega
        · obtain rfl : K = k := by omega
          obtain ⟨W2, hW2⟩ : ∃ W2 : World, W2 = wr := ⟨_, rfl⟩
          rw [← hW2] at HB hgs1 ⊢
          clear hW2
          go_wp2
          go_loopw [9, 10] (fun kk _ wr => ∃ k : Nat, k ≤ K ∧ kk = .int .i64 k ∧ SameW W2 wr) (fun kk _ _ => K - (intOf kk).toNat)
          case atStart => exact ⟨0, Nat.zero_le _, rfl, 0, rfl⟩
          case round =>
            obtain ⟨k, hk, rfl, nq, rfl⟩ := hrel
            by_cases hlt : k < K
            · have hnk := h.hn k hlt
              obtain ⟨Gs, hgs, hA, hFw⟩ := HB.out
              obtain ⟨hvo, hGo⟩ := hA k hlt
              obtain ⟨G, ys, hGk, hGown, rfl, -⟩ := hGo hlt
              have hcl := h.cell hFw hlt
              obtain ⟨gG, cG, rfl, -, -, -⟩ := own_some hGown (by omega)
              have hgc := own_cell hgs hGk
              have hkK : (0 : Int) ≤ (k : Int) ∧ (k : Int) < (K : Int) := by omega
              obtain ⟨nk, hnk2⟩ : ∃ m, m = n k := ⟨_, rfl⟩
              rw [← hnk2] at hnk hvo hGown hgc
              clear hgs hA hFw hGo hGk hnk2
              obtain ⟨Ak, ck, hVf⟩ := own_sl hvo
              rw [hVf] at hcl hvo
              clear hVf
              go_wp2
              go_loopw [10] (fun ii wr => ∃ i : Nat, i ≤ nk + 64 ∧ ii = .int .i64 i ∧ SameW W2 wr) (fun ii _ => nk + 64 - (intOf ii).toNat)
              case atStart => exact ⟨0, Nat.zero_le _, rfl, nq, rfl⟩
              case round =>
                obtain ⟨i, hi, rfl, mq, rfl⟩ := hrel
                by_cases hil : i < nk + 64
                · have hi0 : (0 : Int) ≤ (i : Int) ∧ (i : Int) < (nk : Int) + 64 := by omega
                  have hge := own_cell hGown (j := i) (u := .int .u8 (mk8 k i).toNat) (by rw [B8_get, mks_get hil]; rfl)
                  have hM := markB_quiet2 k i k i rfl rfl (by omega) (by omega) W2 mq
                  by_cases hin : i < nk
                  · obtain ⟨gv, cv, hVg, -, -, -⟩ := own_some hvo (by omega)
                    rw [hVg] at hcl
                    have hve := own_cell (by rw [hVg] at hvo; exact hvo) (j := i) (u := .int .u8 (mk8 k i).toNat) (by rw [B8_get, mks_get hin]; rfl)
                    have hi1 : (0 : Int) ≤ (i : Int) ∧ (i : Int) < (nk : Int) := by omega
                    have hd1 : decide ((i : Int) < (nk : Int)) = true := by simp; omega
                    have hd2 : decide (i < nk) = true := by simp; omega
                    generalize mk8 k i = x at hge hM hve
                    have hq : (((x.toNat : Int)) == (x.toNat : Int)) = true := by simp
                    clear hvo hGown hVg
                    go_wp2
                    go_quiet ((go_at_call 49; exact hM _))
                    go_wp2
                    go_roundw
                    case rel => exact ⟨i + 1, by omega, by go_num, ⟨_, rfl⟩⟩
                    case measure => simp [intOf]; omega
                  · have hd1 : decide ((i : Int) < (nk : Int)) = false := by simp; omega
                    have hd2 : decide (i < nk) = false := by simp; omega
                    generalize mk8 k i = x at hge hM
                    have hq : (((x.toNat : Int)) == (x.toNat : Int)) = true := by simp
                    clear hvo hGown
                    go_wp2
                    go_quiet ((go_at_call 49; exact hM _))
                    go_wp2
                    go_roundw
                    case rel => exact ⟨i + 1, by omega, by go_num, ⟨_, rfl⟩⟩
                    case measure => simp [intOf]; omega
                · obtain rfl : i = nk + 64 := by omega
                  clear hvo hGown
                  go_wp2
                  go_roundw
                  case rel => exact ⟨k + 1, by omega, by go_num, ⟨_, rfl⟩⟩
                  case measure => simp [intOf]; omega
            · obtain rfl : K = k := by omega
              obtain ⟨W3, hW3⟩ : ∃ W3 : World, W3 = W2.drewN nq := ⟨_, rfl⟩
              have hB3 : InvB w K gg V n (fun j ys => ys.take (n j) = mks j (n j)) (fun _ => True) W3 := by
                obtain ⟨Gs, hgs, hA, hFw⟩ := HB.out
                rw [hW3]
                refine ⟨Gs, own_alk hgs rfl, fun j hj => ?_, hFw.drewN nq⟩
                obtain ⟨h1, h2⟩ := hA j hj
                obtain ⟨G, ys, a1, a2, rfl, a4⟩ := h2 hj
                exact ⟨own_alk h1 rfl, fun _ => ⟨G, _, a1, own_alk a2 rfl, mks_take (by omega), a4⟩⟩
              have hgs3 : gg < W3.heap.size := by rw [hW3]; exact hgs1
              have HB3 := Lib.hid hB3
              rw [← hW3]
              clear hW3 hB3 HB hgs1
              go_wp2
              go_loopw [11, 12, 13] (fun kk _ _ wr => ∃ k : Nat, k ≤ K ∧ kk = .int .i64 k ∧ InvB w K gg V n (fun j ys => ys.take (n j) = mks j (n j)) (fun _ => True) wr ∧ gg < wr.heap.size) (fun kk _ _ _ => K - (intOf kk).toNat)
              case atStart => exact ⟨0, Nat.zero_le _, rfl, HB3.out, hgs3⟩
              case round =>
                obtain ⟨k, hk, rfl, hB, hgs1⟩ := hrel
                have HB := Lib.hid hB
                clear hB HB3 hgs3
                obtain ⟨W0, hW0⟩ : ∃ W0 : World, W0 = wr := ⟨_, rfl⟩
                rw [← hW0] at HB hgs1 ⊢
                clear hW0
                by_cases hlt : k < K
                · have hnk := h.hn k hlt
                  obtain ⟨nk, hnk2⟩ : ∃ m, m = n k := ⟨_, rfl⟩
                  rw [← hnk2] at hnk
                  have HN := Lib.hid hnk2
                  obtain ⟨hcl, hvo, hV0, ⟨Gs, hgs⟩⟩ : W0.cell? ⟨gl, ol + k, none⟩ = some (V k) ∧ Ow W0 (V k) nk (mks k nk) ∧ (∀ b, (V k).ownBlock = some b → b < w.heap.size) ∧ ∃ Gs, W0.ownsRow 0 22 1 (.slice (some ⟨gg, 0, none⟩) K K) K Gs := by
                    obtain ⟨Gs, hgs, hA, hFw⟩ := HB.out
                    refine ⟨h.cell hFw hlt, by rw [hnk2]; exact (hA k hlt).1, ?_, ⟨Gs, hgs⟩⟩
                    obtain ⟨xs, hx⟩ := h.own k hlt
                    exact fun b e => hx.lt e
                  have hV1 : ∀ b, (V k).ownBlock = some b → b < W0.heap.size := fun b e => by have := hV0 b e; omega
                  have hgk : gg ∉ (V k).ownBlock.toList := by
                    intro hc
                    have := hV0 gg (by simpa using hc)
                    omega
                  have hglk : gl ∉ (V k).ownBlock.toList := fun hc => hgl (h.sub hlt gl hc)
                  obtain ⟨Ak, ck, hVf⟩ := own_sl hvo
                  have HVF := Lib.hid hVf
                  rw [hVf] at hcl
                  have HVO := Lib.hid hvo
                  have HGS := Lib.hid hgs
                  have hmk2 := mk64 W0
                  obtain ⟨⟨zs, hzo⟩, hFm⟩ := many_row W0
                  have HZ := Lib.hid hzo
                  have hkK : (0 : Int) ≤ (k : Int) ∧ (k : Int) < (K : Int) := by omega
                  have hwK : IntKind.i64.wrap ((k : Int) + (K : Int)) = (k : Int) + (K : Int) := i64_i (by omega) (by omega)
                  clear hnk2 hvo hVf hgs hV0 hzo
                  go_wp2
                  go_loopw [13] (fun ii wr => ∃ i : Nat, i ≤ 64 ∧ ii = .int .i64 i ∧ (∃ xs, Ow wr (.slice (some ⟨W0.heap.size, 0, none⟩) 64 64) 64 xs ∧ xs.take i = mks (k + K) i) ∧ Fr [] W0 wr) (fun ii _ => 64 - (intOf ii).toNat)
                  case atStart => exact ⟨0, Nat.zero_le _, rfl, ⟨zs, HZ.out, by simp [mks]⟩, hFm⟩
                  case round =>
                    obtain ⟨i, hi, rfl, ⟨xs, hox, htk⟩, hFi⟩ := hrel
                    by_cases hil : i < 64
                    · have hil' : (i : Int) < 64 := by omega
                      have hxl := hox.len
                      obtain ⟨x, hx0⟩ := (⟨_, List.getElem?_eq_getElem (by omega)⟩ : ∃ x, xs[i]? = some x)
                      have hce := own_cell hox (j := i) (u := .int .u8 x.toNat) (by rw [B8_get, hx0]; rfl)
                      have hfz := own_fz hox i
                      have hO := own_set hox i (.int .u8 (mk8 (k + K) i).toNat)
                      rw [B8_set _ i (mk8 (k + K) i) rfl] at hO
                      have HO : Hid (Ow (wr.setCell ⟨W0.heap.size, i, none⟩ (.int .u8 (mk8 (k + K) i).toNat)) (.slice (some ⟨W0.heap.size, 0, none⟩) 64 64) 64 (xs.set i (mk8 (k + K) i))) := hO
                      have HT := Lib.hid (take_set (k := k + K) (by omega) htk)
                      have hFs : Fr [] W0 (wr.setCell ⟨W0.heap.size, i, none⟩ (.int .u8 (mk8 (k + K) i).toNat)) := hFi.setCell (.inr (Nat.le_refl _)) _
                      have hi0 : (0 : Int) ≤ (i : Int) ∧ (i : Int) < 64 := by omega
                      have hM := fun w => markB_any ((k : Int) + (K : Int)) i (k + K) i (by omega) rfl (by omega) (by omega) w
                      clear hox hO hx0 htk hFi
                      go_wp2_with fail
                      refine (hM _).mono ?_
                      rintro e w' ⟨rfl, rfl⟩
                      clear hM
                      go_wp2_with fail
                      go_roundw
                      case rel => exact ⟨i + 1, by omega, by go_num, ⟨_, HO.out, HT.out⟩, hFs⟩
                      case measure => simp [intOf]; omega
                    · obtain rfl : i = 64 := by omega
                      have hxk : xs = mks (k + K) 64 := by rw [← htk, List.take_of_length_le (by rw [hox.len]; exact Nat.le_refl _)]
                      rw [hxk] at hox
                      have hcli := hFi.cell hcl (by simp)
                      have hvi := HVO.out.fr hFi (by simp)
                      obtain ⟨v', W', hr, ho, hout⟩ := app_two el8 wr 0 22 (V k) nk (B8 (mks k nk)) hvi ⟨W0.heap.size, 0, none⟩ 64 64 (B8 (mks (k + K) 64)) (by rw [B8_length, mks_length]) (Rd.own hox) (B8_one _) (by decide) (by unfold maxLen; omega) (by omega) (Nat.zero_le _)
                      rw [← B8_append] at ho
                      have htk2 : (mks k nk ++ mks (k + K) 64).take nk = mks k nk := by
                        rw [List.take_append_of_le_length (by rw [mks_length]; exact Nat.le_refl _), List.take_of_length_le (by rw [mks_length]; exact Nat.le_refl _)]
                      obtain ⟨q1, q2, q3⟩ := out_two (V := V k) (n := nk) (xs := mks k nk) hV1 hvi ho htk2 (by omega) hout (by
                        rcases hvi.2 with ⟨e, -⟩ | ⟨g, cap, cur, e, -⟩
                        · exact .inr (fun b hb => by rw [e] at hb; cases hb)
                        · exact .inl ⟨g, cap, e, e⟩) hFi.nil
                      obtain ⟨A6, c6, rfl⟩ := own_sl ho
                      have hgs2 := q3.own HGS.out (by intro b e; injection e with e; subst e; exact hgk)
                      obtain ⟨gv, hgv⟩ : ∃ gv, Gs[k]? = some gv := ⟨_, List.getElem?_eq_getElem (by have := hgs2.1; omega)⟩
                      have hgc := own_cell hgs2 hgv
                      have hgz := own_fz hgs2 k
                      have hsz := q3.size
                      have hst : InvB w K gg V n (fun j ys => ys.take (n j) = mks j (n j)) (fun _ => True) (W'.setCell ⟨gg, k, none⟩ (.slice A6 (nk + 64) c6)) := by
                        refine stepB (ys := mks k nk ++ mks (k + K) 64) h hlt HB.out hgw q3 (by rw [← HN.out]; exact q1) (by rw [← HN.out]; exact ho) (by rw [← HN.out]; exact htk2) ?_ (fun _ _ _ => trivial)
                        intro b e
                        rcases q2 with ⟨g, c, e1, e2⟩ | hb
                        · rw [e2] at e; rw [e1]; exact .inl e
                        · have := hb b e; exact .inr (by omega)
                      have HST := Lib.hid hst
                      rw [HVF.out] at hr
                      clear hox hxk htk hvi ho hout q1 q2 q3 hgs2 hgv hst htk2 hFi
                      go_wp2_with (at_builtin; refine wpList_app rfl _ _ _ rfl hr rfl rfl ?_)
                      go_roundw
                      case rel => exact ⟨k + 1, by omega, by go_num, HST.out, by simp [World.setCell]; omega⟩
                      case measure => simp [intOf]; omega
                · obtain rfl : K = k := by omega
                  go_wp2
                  go_loopw [14, 15] (fun kk _ wr => ∃ k : Nat, k ≤ K ∧ kk = .int .i64 k ∧ SameW W0 wr) (fun kk _ _ => K - (intOf kk).toNat)
                  case atStart => exact ⟨0, Nat.zero_le _, rfl, 0, rfl⟩
                  case round =>
                    obtain ⟨k, hk, rfl, nq, rfl⟩ := hrel
                    by_cases hlt : k < K
                    · have hnk := h.hn k hlt
                      obtain ⟨Gs, hgs, hA, hFw⟩ := HB.out
                      obtain ⟨hvo, hGo⟩ := hA k hlt
                      obtain ⟨G, ys, hGk, hGown, hys, -⟩ := hGo trivial
                      have hcl := h.cell hFw hlt
                      obtain ⟨gG, cG, rfl, -, -, -⟩ := own_some hGown (by omega)
                      have hgc := own_cell hgs hGk
                      have hkK : (0 : Int) ≤ (k : Int) ∧ (k : Int) < (K : Int) := by omega
                      obtain ⟨nk, hnk2⟩ : ∃ m, m = n k := ⟨_, rfl⟩
                      rw [← hnk2] at hnk hvo hGown hgc hys
                      clear hgs hA hFw hGo hGk hnk2
                      obtain ⟨Ak, ck, hVf⟩ := own_sl hvo
                      rw [hVf] at hcl hvo
                      clear hVf
                      go_wp2
                      go_loopw [15] (fun ii wr => ∃ i : Nat, i ≤ nk ∧ ii = .int .i64 i ∧ SameW W0 wr) (fun ii _ => nk - (intOf ii).toNat)
                      case atStart => exact ⟨0, Nat.zero_le _, rfl, nq, rfl⟩
                      case round =>
                        obtain ⟨i, hi, rfl, mq, rfl⟩ := hrel
                        by_cases hil : i < nk
                        · have hi0 : (0 : Int) ≤ (i : Int) ∧ (i : Int) < (nk : Int) := by omega
                          have hi1 : (0 : Int) ≤ (i : Int) ∧ (i : Int) < (nk : Int) + 64 := by omega
                          have hge := own_cell hGown (j := i) (u := .int .u8 (mk8 k i).toNat) (by rw [B8_get, take_get hys hil]; rfl)
                          have hM := markB_quiet2 k i k i rfl rfl (by omega) (by omega) W0 mq
                          obtain ⟨gv, cv, hVg, -, -, -⟩ := own_some hvo (by omega)
                          rw [hVg] at hcl
                          have hve := own_cell (by rw [hVg] at hvo; exact hvo) (j := i) (u := .int .u8 (mk8 k i).toNat) (by rw [B8_get, mks_get hil]; rfl)
                          generalize mk8 k i = x at hge hM hve
                          have hq : (((x.toNat : Int)) == (x.toNat : Int)) = true := by simp
                          clear hvo hGown hVg hys
                          go_wp2
                          go_quiet ((go_at_call 49; exact hM _))
                          go_wp2
                          go_roundw
                          case rel => exact ⟨i + 1, by omega, by go_num, ⟨_, rfl⟩⟩
                          case measure => simp [intOf]; omega
                        · obtain rfl : i = nk := by omega
                          clear hvo hGown hys
                          go_wp2
                          go_roundw
                          case rel => exact ⟨k + 1, by omega, by go_num, ⟨_, rfl⟩⟩
                          case measure => simp [intOf]; omega
                    · obtain rfl : K = k := by omega
                      have hFE : Fr (Sv K V) w (W0.drewN nq) := by
                        obtain ⟨Gs, hgs, hA, hFw⟩ := HB.out
                        exact hFw.drewN nq
                      go_wp2
                      go_ret
                      exact ⟨rfl, hFE⟩
end Go.Proofs.Ytdkpmbefnfdbkaa
