/- Has, Next, Count. -/
import Derived.Test.YtjfadoealhlccaaGreatDoorComb
import Derived.Test.YtjfadoealhlccaaGreatDoorCnt
namespace Go.Proofs.YtjfadoealhlccaaGreatDoor
open Go.RowKit
set_option linter.unusedVariables false
set_option maxRecDepth 100000

theorem take_snoc {l : List Sp} {k : Nat} {x : Sp} (hx : l[k]? = some x) : l.take (k + 1) = l.take k ++ [x] := by
  obtain ⟨hk, e⟩ := List.getElem?_eq_some_iff.1 hx
  rw [List.take_succ_eq_append_getElem hk, e]
theorem has1_any (a b m g : Nat) (W : World) (hc : W.cell? ⟨g, 0, none⟩ = some (.int .u32 m)) :
    Calls Tryz.prog 34 #[.agg #[.int .u32 a, .int .u32 b], .pointer (some ⟨g, 0, none⟩)] W fun e w' => e = .returned (.bool (decide (a ≤ m ∧ m ≤ b))) ∧ Fr [] W w' := by
  have hc2 := old_cell hc (.cells #[.int .u32 a, .int .u32 b] 40)
  by_cases h : a ≤ m
  · have d1 : decide (a ≤ m) = true := decide_eq_true h
    have e : decide (a ≤ m ∧ m ≤ b) = decide (m ≤ b) := by rw [decide_eq_decide]; exact ⟨fun h => h.2, fun h2 => ⟨h, h2⟩⟩
    rw [e]
    clear e
    go_enter Tryz.func34, Tryz.ntmps34
    go_wp2
    go_ret
    exact ⟨rfl, (Fr.refl _ _).alloc _⟩
  · have d1 : decide (a ≤ m) = false := decide_eq_false h
    have e : decide (a ≤ m ∧ m ≤ b) = false := decide_eq_false fun h2 => h h2.1
    rw [e]
    clear e
    go_enter Tryz.func34, Tryz.ntmps34
    go_wp2
    go_ret
    exact ⟨rfl, (Fr.refl _ _).alloc _⟩
def IdxP (l : List Sp) (m : Nat) (w : World) (e : Ending) (w' : World) : Prop :=
  Fr [] w w' ∧ ((hasS l m ∧ ∃ k : Nat, e = .returned (.int .i64 k)) ∨ (¬ hasS l m ∧ e = .returned (.int .i64 (-1))))
set_option maxHeartbeats 1000000 in
theorem idx_any (s : ArgS) (m g : Nat) (w : World) (os : s.Ok w) (hc : w.cell? ⟨g, 0, none⟩ = some (.int .u32 m)) :
    Calls Tryz.prog 49 #[.slice s.A s.n s.c, .func (.func 34) #[] #[.pointer (some ⟨g, 0, none⟩)]] w (IdxP s.l m w) := by
  obtain ⟨A, n, c, l⟩ := s
  have hR := os.rd
  have hnb := os.n
  have HL := Lib.hid os.len
  simp only at hR hnb HL ⊢
  clear os
  go_enter Tryz.func49, Tryz.ntmps49
  go_wp2
  go_loopw [8] (fun i wr => ∃ k : Nat, k ≤ n ∧ i = .int .i64 k ∧ ¬ hasS (l.take k) m ∧ Fr [] w wr) (fun i _ => n - (intOf i).toNat)
  case atStart => exact ⟨0, Nat.zero_le _, rfl, by simp [hasS_nil], Fr.refl _ _⟩
  case round =>
    obtain ⟨k, hk, rfl, hT, hF⟩ := hrel
    have HT := Lib.hid hT
    clear hT
    by_cases hlt : k < n
    · obtain ⟨⟨x1, x2⟩, hx⟩ : ∃ x, l[k]? = some x := ⟨_, List.getElem?_eq_getElem (by rw [HL.out]; exact hlt)⟩
      obtain ⟨bb, oo, rfl, p1, p2⟩ := rdS (hR.fr hF (by simp)) hx
      simp only at p1 p2
      have hi0 : (0 : Int) ≤ (k : Int) ∧ (k : Int) < n := by omega
      have cH := has1_any x1 x2 m g wr (hF.cell hc (by simp))
      have HX := Lib.hid hx
      clear hx
      by_cases hm : x1 ≤ m ∧ m ≤ x2
      · rw [decide_eq_true hm] at cH
        have hh : hasS l m := ⟨(x1, x2), List.mem_of_getElem? HX.out, hm⟩
        have HH := Lib.hid hh
        clear hh hm
        go_wp2_with fail
        refine cH.mono ?_
        rintro e w2 ⟨rfl, hG⟩
        go_wp2_with fail
        go_ret
        exact ⟨hF.trans hG, .inl ⟨HH.out, k, rfl⟩⟩
      · rw [decide_eq_false hm] at cH
        have hh : ¬ hasS (l.take (k + 1)) m := by
          rw [take_snoc HX.out, hasS_app, hasS_one]
          exact fun h => h.elim HT.out hm
        have HH := Lib.hid hh
        clear hh hm
        go_wp2_with fail
        refine cH.mono ?_
        rintro e w2 ⟨rfl, hG⟩
        clear cH p1 p2
        go_wp2_with fail
        go_roundw
        case rel => exact ⟨k + 1, by omega, by go_num, HH.out, hF.trans hG⟩
        case measure => simp [intOf]; omega
    · obtain rfl : k = n := by omega
      have hh : ¬ hasS l m := by
        have := HT.out
        rwa [← HL.out, List.take_length] at this
      have HH := Lib.hid hh
      clear hh
      go_wp2
      go_ret
      exact ⟨hF, .inr ⟨HH.out, rfl⟩⟩
theorem contains_any (s : ArgS) (m g : Nat) (w : World) (os : s.Ok w) (hc : w.cell? ⟨g, 0, none⟩ = some (.int .u32 m)) :
    Calls Tryz.prog 33 #[.slice s.A s.n s.c, .func (.func 34) #[] #[.pointer (some ⟨g, 0, none⟩)]] w fun e w' => e = .returned (.bool (decide (hasS s.l m))) ∧ Fr [] w w' := by
  have h := idx_any s m g w os hc
  obtain ⟨B, hB⟩ : ∃ B, B = decide (hasS s.l m) := ⟨_, rfl⟩
  rw [← hB]
  have HB := Lib.hid hB
  clear hB
  go_enter Tryz.func33, Tryz.ntmps33
  go_wp2_with fail
  refine h.mono ?_
  rintro e w2 ⟨hF, ⟨hh, k, rfl⟩ | ⟨hh, rfl⟩⟩
  · obtain rfl : B = true := by rw [HB.out]; exact decide_eq_true hh
    have hk : (0 : Int) ≤ (k : Int) := by omega
    clear h hh
    go_wp2_with fail
    go_ret
    exact ⟨rfl, hF⟩
  · obtain rfl : B = false := by rw [HB.out]; exact decide_eq_false hh
    clear h hh
    go_wp2_with fail
    go_ret
    exact ⟨rfl, hF⟩
theorem hasS_any (s : ArgS) (m : Nat) (w : World) (os : s.Ok w) :
    Calls Tryz.prog 17 #[.slice s.A s.n s.c, .int .u32 m] w fun e w' => e = .returned (.bool (decide (hasS s.l m))) ∧ Fr [] w w' := by
  have hF : Fr [] w (w.alloc (.cells #[.int .u32 m] 37)) := (Fr.refl _ _).alloc _
  have h := contains_any s m w.heap.size _ (os.fr hF) (new_cell w #[.int .u32 m] 37 0 _ rfl)
  generalize decide (hasS s.l m) = B at h ⊢
  go_enter Tryz.func17, Tryz.ntmps17
  go_wp2_with fail
  refine h.mono ?_
  rintro e w2 ⟨rfl, hG⟩
  go_wp2_with fail
  go_ret
  exact ⟨rfl, hF.trans hG⟩

/-- The least number from g on that the spans have. -/
def NextS (l : List Sp) (g v : Nat) (b : Bool) : Prop :=
  (b = true ∧ g ≤ v ∧ hasS l v ∧ ∀ m, g ≤ m → m < v → ¬ hasS l m) ∨ (b = false ∧ v = 0 ∧ ∀ m, g ≤ m → ¬ hasS l m)
theorem nextS_nil (g : Nat) : NextS [] g 0 false := .inr ⟨rfl, rfl, fun m _ => hasS_nil m⟩
theorem nextS_new {l : List Sp} {g v f : Nat} {b : Bool} {x : Sp} (h : NextS l g v b) (hf : f = max x.1 g) (h1 : f ≤ x.2) (h2 : b = false ∨ f < v) : NextS (l ++ [x]) g f true := by
  refine .inl ⟨rfl, by omega, (hasS_app _ _ _).2 (.inr ((hasS_one _ _).2 ⟨by omega, h1⟩)), fun m hg hm hh => ?_⟩
  rcases (hasS_app _ _ _).1 hh with h3 | h3
  · rcases h with ⟨rfl, _, _, h4⟩ | ⟨_, _, h4⟩
    · rcases h2 with h2 | h2
      · cases h2
      · exact h4 m hg (by omega) h3
    · exact h4 m hg h3
  · have := (hasS_one _ _).1 h3
    omega
theorem nextS_old {l : List Sp} {g v f : Nat} {b : Bool} {x : Sp} (h : NextS l g v b) (hf : f = max x.1 g) (h2 : ¬ f ≤ x.2 ∨ (b = true ∧ ¬ f < v)) : NextS (l ++ [x]) g v b := by
  rcases h with ⟨rfl, h3, h4, h5⟩ | ⟨rfl, h3, h4⟩
  · refine .inl ⟨rfl, h3, (hasS_app _ _ _).2 (.inl h4), fun m hg hm hh => ?_⟩
    rcases (hasS_app _ _ _).1 hh with h6 | h6
    · exact h5 m hg hm h6
    · have := (hasS_one _ _).1 h6
      rcases h2 with h2 | h2 <;> omega
  · refine .inr ⟨rfl, h3, fun m hg hh => ?_⟩
    rcases (hasS_app _ _ _).1 hh with h6 | h6
    · exact h4 m hg h6
    · have := (hasS_one _ _).1 h6
      rcases h2 with h2 | ⟨h2, _⟩
      · omega
      · cases h2
def NextP (l : List Sp) (g : Nat) (w : World) (e : Ending) (w' : World) : Prop := ∃ (v : Nat) (b : Bool), e = .returned (.tuple #[.int .u32 v, .bool b]) ∧ NextS l g v b ∧ v < 4294967296 ∧ Fr [] w w'
set_option maxHeartbeats 1000000 in
theorem next_any (s : ArgS) (g : Nat) (hg : g < 4294967296) (w : World) (os : s.Ok w) :
    Calls Tryz.prog 25 #[.slice s.A s.n s.c, .int .u32 g] w (NextP s.l g w) := by
  obtain ⟨A, n, c, l⟩ := s
  have hR := os.rd
  have hnb := os.n
  have HL := Lib.hid os.len
  have HS := Lib.hid os.sb
  simp only at hR hnb HL HS ⊢
  clear os
  go_enter Tryz.func25, Tryz.ntmps25
  go_wp2
  go_loopw [6, 7, 13] (fun v6 v7 i wr => ∃ (k v : Nat) (b : Bool), k ≤ n ∧ i = .int .i64 k ∧ v6 = .int .u32 v ∧ v7 = .bool b ∧ NextS (l.take k) g v b ∧ v < 4294967296 ∧ Fr [] w wr) (fun _ _ i _ => n - (intOf i).toNat)
  case atStart => exact ⟨0, 0, false, Nat.zero_le _, rfl, rfl, rfl, nextS_nil g, by decide, Fr.refl _ _⟩
  case round =>
    obtain ⟨k, v, b, hk, rfl, rfl, rfl, hT, hv, hF⟩ := hrel
    have HT := Lib.hid hT
    clear hT
    by_cases hlt : k < n
    · obtain ⟨⟨x1, x2⟩, hx⟩ : ∃ x, l[k]? = some x := ⟨_, List.getElem?_eq_getElem (by rw [HL.out]; exact hlt)⟩
      have hbnd := HS.out.get hx
      obtain ⟨bb, oo, rfl, p1, p2⟩ := rdS (hR.fr hF (by simp)) hx
      simp only at p1 p2 hbnd
      have hi0 : (0 : Int) ≤ (k : Int) ∧ (k : Int) < n := by omega
      have hF2 := hF.alloc (.cells #[.int .u32 x1, .int .u32 x2] 40)
      have HX := Lib.hid hx
      clear hx
      obtain ⟨f, hf⟩ : ∃ f, f = max x1 g := ⟨_, rfl⟩
      have hf2 : f < 4294967296 := by omega
      have hfm : (x1 < g ∧ f = g ∧ x1 < g) ∨ (¬ x1 < g ∧ f = x1 ∧ ¬ x1 < g) := by omega
      have HF := Lib.hid hf
      clear hf
      rcases hfm with ⟨m1, rfl, m2⟩ | ⟨m1, rfl, m2⟩
      all_goals
        by_cases h1 : f ≤ x2
        · have d1 : decide (f ≤ x2) = true := decide_eq_true h1
          cases b with
          | false =>
            have hN := nextS_new (x := (_, x2)) HT.out HF.out h1 (.inl rfl)
            rw [← take_snoc HX.out] at hN
            have HN := Lib.hid hN
            clear hN
            go_wp2
            go_roundw
            case rel => exact ⟨k + 1, f, true, by omega, by go_num, rfl, rfl, HN.out, hf2, hF2⟩
            case measure => simp [intOf]; omega
          | true =>
            by_cases h2 : f < v
            · have d2 : decide (f < v) = true := decide_eq_true h2
              have hN := nextS_new (x := (_, x2)) HT.out HF.out h1 (.inr h2)
              rw [← take_snoc HX.out] at hN
              have HN := Lib.hid hN
              clear hN
              go_wp2
              go_roundw
              case rel => exact ⟨k + 1, f, true, by omega, by go_num, rfl, rfl, HN.out, hf2, hF2⟩
              case measure => simp [intOf]; omega
            · have d2 : decide (f < v) = false := decide_eq_false h2
              have hN := nextS_old (x := (_, x2)) HT.out HF.out (.inr ⟨rfl, h2⟩)
              rw [← take_snoc HX.out] at hN
              have HN := Lib.hid hN
              clear hN
              go_wp2
              go_roundw
              case rel => exact ⟨k + 1, v, true, by omega, by go_num, rfl, rfl, HN.out, hv, hF2⟩
              case measure => simp [intOf]; omega
        · have d1 : decide (f ≤ x2) = false := decide_eq_false h1
          have hN := nextS_old (x := (_, x2)) HT.out HF.out (.inl h1)
          rw [← take_snoc HX.out] at hN
          have HN := Lib.hid hN
          clear hN
          go_wp2
          go_roundw
          case rel => exact ⟨k + 1, v, b, by omega, by go_num, rfl, rfl, HN.out, hv, hF2⟩
          case measure => simp [intOf]; omega
    · obtain rfl : k = n := by omega
      have hh := HT.out
      rw [← HL.out, List.take_length] at hh
      have HH := Lib.hid hh
      clear hh
      go_wp2
      go_ret2
      exact ⟨v, b, rfl, HH.out, hv, hF⟩

set_option maxHeartbeats 1000000 in
theorem count_no (s : ArgS) (E : Int) (hE : E = errS [s]) (h0 : E ≠ 0) (w : World) (os : s.Ok w) :
    Calls Tryz.prog 18 #[.slice s.A s.n s.c] w fun e w' => e = .returned (.tuple #[.int .i64 0, .int .i64 E]) ∧ Fr [] w w' := by
  have hF : Fr [] w (w.alloc (.cells #[.slice s.A s.n s.c] 26)) := (Fr.refl _ _).alloc _
  have hK := check_any [s] (some ⟨w.heap.size, 0, none⟩) 1 1 (w.alloc (.cells #[.slice s.A s.n s.c] 26)) rfl (rd_new2 w _ _) (by
    intro x hx
    simp only [List.mem_cons, List.not_mem_nil, or_false] at hx
    subst hx
    exact os.fr hF) (by decide)
  rw [← hE] at hK
  have b1 : (E == 0) = false := by rw [beq_eq_false_iff_ne]; exact h0
  clear hE h0
  go_enter Tryz.func18, Tryz.ntmps18
  go_wp2_with fail
  refine hK.mono ?_
  rintro e w2 ⟨rfl, hG⟩
  go_wp2_with fail
  go_ret2
  exact ⟨rfl, hF.trans hG⟩
theorem rsf_at {b : Nat} {l : List Sp} (h : RSf b l) : ∀ x ∈ l, x.1 ≤ x.2 := by
  induction l generalizing b with
  | nil => intro x hx; simp at hx
  | cons y l ih =>
    intro x hx
    rcases List.mem_cons.1 hx with rfl | hx
    · exact h.2.1
    · exact ih h.2.2 x hx
theorem szS_take {l : List Sp} (h : RSf 0 l) (hs : SB l) (k : Nat) : szS (l.take k) ≤ 4294967296 := szS_le (rsf_take k h) fun x hx => hs x (List.mem_of_mem_take hx)
set_option maxHeartbeats 1000000 in
theorem count_yes (s : ArgS) (h0 : errS [s] = 0) (w : World) (os : s.Ok w) :
    Calls Tryz.prog 18 #[.slice s.A s.n s.c] w fun e w' => e = .returned (.tuple #[.int .i64 (szS s.l), .int .i64 0]) ∧ Fr [] w w' := by
  have hF : Fr [] w (w.alloc (.cells #[.slice s.A s.n s.c] 26)) := (Fr.refl _ _).alloc _
  have hK := check_any [s] (some ⟨w.heap.size, 0, none⟩) 1 1 (w.alloc (.cells #[.slice s.A s.n s.c] 26)) rfl (rd_new2 w _ _) (by
    intro x hx
    simp only [List.mem_cons, List.not_mem_nil, or_false] at hx
    subst hx
    exact os.fr hF) (by decide)
  rw [h0] at hK
  have HZ := Lib.hid (errS_zero h0 s (by simp)).2
  clear h0
  obtain ⟨A, n, c, l⟩ := s
  have hR := os.rd
  have hnb := os.n
  have HL := Lib.hid os.len
  have HS := Lib.hid os.sb
  simp only at hR hnb HL HS HZ hK ⊢
  clear os
  go_enter Tryz.func18, Tryz.ntmps18
  go_wp2_with fail
  refine hK.mono ?_
  rintro e w2 ⟨rfl, hG⟩
  replace hF := hF.trans hG
  clear hK hG
  go_wp2
  go_loopw [5, 16] (fun v5 i wr => ∃ (k : Nat), k ≤ n ∧ i = .int .i64 k ∧ v5 = .int .i64 (szS (l.take k)) ∧ Fr [] w wr) (fun _ i _ => n - (intOf i).toNat)
  case atStart => exact ⟨0, Nat.zero_le _, rfl, rfl, hF⟩
  case round =>
    clear hF
    obtain ⟨k, hk, rfl, rfl, hF⟩ := hrel
    by_cases hlt : k < n
    · obtain ⟨⟨x1, x2⟩, hx⟩ : ∃ x, l[k]? = some x := ⟨_, List.getElem?_eq_getElem (by rw [HL.out]; exact hlt)⟩
      have hbnd := HS.out.get hx
      have hle := rsf_at HZ.out (x1, x2) (List.mem_of_getElem? hx)
      have hsz := szS_take HZ.out HS.out (k + 1)
      rw [take_snoc hx, szS_snoc] at hsz
      have hsn : szS (l.take (k + 1)) = szS (l.take k) + (x2 - x1 + 1) := by rw [take_snoc hx, szS_snoc]
      obtain ⟨bb, oo, rfl, p1, p2⟩ := rdS (hR.fr hF (by simp)) hx
      simp only at p1 p2 hbnd hle hsz
      have hi0 : (0 : Int) ≤ (k : Int) ∧ (k : Int) < n := by omega
      have hF2 := hF.alloc (.cells #[.int .u32 x1, .int .u32 x2] 40)
      generalize szS (l.take k) = z at hsz hsn ⊢
      have w1 : IntKind.u32.wrap ((x2 : Int) - x1) = ((x2 - x1 : Nat) : Int) := by rw [IntKind.wrap_u32]; omega
      obtain ⟨d, hd⟩ : ∃ d, d = x2 - x1 := ⟨_, rfl⟩
      rw [← hd] at w1 hsn hsz
      have hd2 : d < 4294967296 := by omega
      have w2 : IntKind.i64.wrap (d : Int) = d := by rw [IntKind.wrap_i64]; omega
      have w3 : IntKind.i64.wrap ((d : Int) + 1) = (d : Int) + 1 := by rw [IntKind.wrap_i64]; omega
      have w4 : IntKind.i64.wrap ((z : Int) + ((d : Int) + 1)) = (z : Int) + ((d : Int) + 1) := by rw [IntKind.wrap_i64]; omega
      have HSN := Lib.hid hsn
      clear hx hd hsn
      go_wp2
      go_roundw
      case rel =>
        refine ⟨k + 1, by omega, by go_num, ?_, hF2⟩
        rw [HSN.out]
        go_num
      case measure => simp [intOf]; omega
    · obtain rfl : k = n := by omega
      rw [← HL.out, List.take_length]
      obtain ⟨z, hz⟩ : ∃ z, z = szS l := ⟨_, rfl⟩
      rw [← hz]
      have HZZ := Lib.hid hz
      clear hz
      go_wp2
      go_ret2
      exact ⟨by rw [← HZZ.out]; rfl, hF⟩
end Go.Proofs.YtjfadoealhlccaaGreatDoor
