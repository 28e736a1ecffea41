/- Of: cloned, sorted, put together. -/
import Derived.Test.YtjfadoealhlccaaGreatDoorComb
import Derived.Test.YtjfadoealhlccaaGreatDoorOrd
import Derived.Test.YtjfadoealhlccaaGreatDoorLay
import Derived.Shelf.SlSortCmp.WholeK
namespace Go.Proofs.YtjfadoealhlccaaGreatDoor
open Go.RowKit Go.Shelf Go.Lib Go.Sort
set_option linter.unusedVariables false
set_option maxRecDepth 100000

def encS (x : Sp) : List Value := [.int .u32 x.1, .int .u32 x.2]
def cfS (x y : Sp) : Int := cmpN x.1 y.1
theorem ltS (x y : Sp) : ltOf cfS x y = decide (x.1 < y.1) := by
  unfold ltOf cfS cmpN
  by_cases h1 : x.1 < y.1
  · simp [h1]
  · by_cases h2 : y.1 < x.1 <;> simp [h1, h2]
theorem swoS : SWO (ltOf cfS) where
  irrefl x := by rw [ltS]; simp
  trans x y z h1 h2 := by rw [ltS] at *; simp at *; omega
  ntrans x y z h1 h2 := by rw [ltS] at *; simp at *; omega
theorem closureS (x y : Sp) (W : World) : Calls Tryz.prog 44 #[.agg #[.int .u32 x.1, .int .u32 x.2], .agg #[.int .u32 y.1, .int .u32 y.2]] W fun e w' => e = .returned (.int .i64 (cfS x y)) ∧ ∃ q os', w' = grow (W.drewN q) os' := by
  have hcon := fun W' => cmp_any x.1 y.1 W'
  unfold cfS
  generalize cmpN x.1 y.1 = r at hcon ⊢
  go_enter Tryz.func44, Tryz.ntmps44
  go_wp2_with (go_at_call 45; refine (hcon _).mono ?_; rintro e w' ⟨rfl, rfl⟩)
  go_ret
  exact ⟨rfl, 0, _, by rw [alloc_eq_grow, alloc_eq_grow, grow_grow]; rfl⟩
theorem cmpLaysS (blk off size : Nat) (w : World) : CmpLays Tryz.prog 44 #[] encS 2 cfS blk off size w :=
  fun _ _ _ _ x y => closureS x y _

theorem sortW_fr {w : World} {g off n : Nat} {d : Array Sp} {os : Array Obj} : Fr [g] w (sortWorldK encS 2 w g off n d os) := by
  refine ⟨rfl, rfl, rfl, ?_, fun k hk hne => ?_⟩
  · unfold sortWorldK putRowK
    simp [Go.Sort.grow, putRow, mapBlock, Sort.ahead]
  · unfold sortWorldK putRowK
    have hgk : g ≠ k := fun e => hne (by simp [e])
    have h1 : k < (putRow id (Sort.ahead w n) g off (flatK encS 2 d)).heap.size := by simpa [putRow, mapBlock, Sort.ahead] using hk
    show ((putRow id (Sort.ahead w n) g off (flatK encS 2 d)).heap ++ os)[k]? = _
    rw [Array.getElem?_append_left h1]
    simp [putRow, mapBlock, Sort.ahead, Array.getElem?_modify, hgk]
theorem holdsS {w : World} {base e g n cap : Nat} {l : List Sp} (h : w.ownsRow base e 2 (.slice (some ⟨g, 0, none⟩) n cap) n (CS l)) (hl : l.length = n) : HoldsK encS 2 w g 0 l.toArray := by
  intro j hj
  have hj2 : j < 2 * l.length := by simpa [Nat.mul_comm] using hj
  have hc := h.cellAt j (by omega)
  have hf := h.frozenAt j
  rw [Nat.zero_add]
  refine ⟨?_, hf⟩
  rw [hc, get_flatK _ _ _ _ (by simpa using hj)]
  have hk : j / 2 < l.length := by omega
  have hx : l[j / 2]? = some (l[j / 2]'hk) := List.getElem?_eq_getElem hk
  obtain ⟨c1, c2⟩ := CS_get hx
  have e1 : l.toArray[j / 2]! = l[j / 2]'hk := by simp [hk]
  rw [e1]
  generalize l[j / 2]'hk = x at c1 c2 ⊢
  rcases Nat.mod_two_eq_zero_or_one j with hm | hm
  · have e2 : j / 2 * 2 = j := by omega
    rw [e2] at c1
    rw [hm, c1]
    rfl
  · have e2 : j / 2 * 2 + 1 = j := by omega
    rw [e2] at c2
    rw [hm, c2]
    rfl
theorem rd_holds {w : World} {g cap : Nat} {d : Array Sp} (h : HoldsK encS 2 w g 0 d) : Rd w (some ⟨g, 0, none⟩) (CS d.toList) := by
  intro j u hu
  refine ⟨_, rfl, ?_⟩
  rw [add_lit', Nat.zero_add]
  have hj : j < (CS d.toList).length := (List.getElem?_eq_some_iff.1 hu).1
  rw [CS_length] at hj
  simp only [Array.length_toList] at hj
  have hk : j / 2 < d.size := by omega
  have h1 := h j (by simp; omega)
  rw [Nat.zero_add, get_flatK _ _ _ _ (by omega)] at h1
  rw [h1.1]
  have hx : d.toList[j / 2]? = some (d[j / 2]!) := by
    rw [Array.getElem?_toList, getElem!_pos d (j / 2) hk]
    exact Array.getElem?_eq_getElem hk
  obtain ⟨c1, c2⟩ := CS_get hx
  rcases Nat.mod_two_eq_zero_or_one j with hm | hm
  · rw [hm]
    have e2 : j = j / 2 * 2 := by omega
    rw [← e2, hu] at c1
    injection c1 with c1
    rw [c1]
    rfl
  · rw [hm]
    have e2 : j = j / 2 * 2 + 1 := by omega
    rw [← e2, hu] at c2
    injection c2 with c2
    rw [c2]
    rfl
theorem asc_of {d : Array Sp} (h : SortedIn (ltOf cfS) 0 d.size d) (hr : ∀ x ∈ d.toList, x.1 ≤ x.2) : Asc 0 d.toList := by
  have key : ∀ (k : Nat) (l : List Sp), l.length = k → (∀ i j, i < j → j < l.length → (l[i]!).1 ≤ (l[j]!).1) → (∀ x ∈ l, x.1 ≤ x.2) → Asc 0 l := by
    intro k
    induction k with
    | zero =>
      intro l hl _ _
      have : l = [] := List.eq_nil_of_length_eq_zero hl
      subst this
      trivial
    | succ k ih =>
      intro l hl hs hx
      rcases snoc_cases l with rfl | ⟨m, x, rfl⟩
      · simp at hl
      · have hm : m.length = k := by simpa using hl
        refine (asc_app 0 m x).2 ⟨ih m hm ?_ fun y hy => hx y (by simp [hy]), hx x (by simp), Nat.zero_le _, ?_⟩
        · intro i j hij hj
          have := hs i j hij (by simp; omega)
          simpa [List.getElem!_eq_getElem?_getD, List.getElem?_append_left (show i < m.length by omega), List.getElem?_append_left hj] using this
        · intro e he
          have hpos : 0 < m.length := by
            rcases Nat.eq_zero_or_pos m.length with h0 | h0
            · have : m = [] := List.eq_nil_of_length_eq_zero h0
              subst this
              simp at he
            · exact h0
          have := hs (m.length - 1) m.length (by omega) (by simp)
          rw [List.getLast?_eq_getElem?] at he
          have h3 : (m ++ [x])[m.length - 1]! = e := by
            have : (m ++ [x])[m.length - 1]? = some e := by rw [List.getElem?_append_left (by omega)]; exact he
            simp [this]
          have h4 : (m ++ [x])[m.length]! = x := by simp
          rw [h3, h4] at this
          exact this
  refine key _ d.toList rfl ?_ hr
  intro i j hij hj
  have hj2 : j < d.size := by simpa using hj
  have h1 := h i j (Nat.zero_le _) hij hj2
  rw [ltS] at h1
  have e1 : d.toList[i]! = d[i]! := by simp [show i < d.size by omega]
  have e2 : d.toList[j]! = d[j]! := by simp [hj2]
  rw [e1, e2]
  simpa using h1
theorem perm_of {d d' : Array Sp} (h : PermIn 0 d.size d d') : d'.toList.Perm d.toList := by
  obtain ⟨h1, _, h3⟩ := h
  have e1 : d'.extract 0 d.size = d' := by rw [← h1]; exact Array.extract_size
  have e2 : d.extract 0 d.size = d := Array.extract_size
  rwa [e1, e2] at h3

/-- A set of the call's own, sorted. -/
theorem sort_any (g n cap base : Nat) (l : List Sp) (w : World) (ho : w.ownsRow base 40 2 (.slice (some ⟨g, 0, none⟩) n cap) n (CS l)) (hl : l.length = n) (hr : ∀ x ∈ l, x.1 ≤ x.2) (hn : n ≤ 1000000000) :
    Calls Tryz.prog 43 #[.slice (some ⟨g, 0, none⟩) n cap, .func (.func 44) #[] #[]] w fun e w' => e = .returned (.tuple #[]) ∧ (∃ l' : List Sp, l'.Perm l ∧ Asc 0 l' ∧ Rd w' (some ⟨g, 0, none⟩) (CS l')) ∧ Fr [g] w w' := by
  have hgl : g < w.heap.size := (ho.lt g rfl).2
  have hsz : l.toArray.size = n := by simpa using hl
  have hcon := AnyQ.slices_SortFunc laysSort 2 Tryz.isAgg40 Tryz.sizeOf40 encS (fun _ => rfl) (fun x v hv => by simp [encS] at hv; rcases hv with rfl | rfl <;> rfl) cfS swoS 44 #[] g 0 cap l.toArray w (enters_of Tryz.func44 (by kernel_rfl) rfl) (cmpLaysS g 0 _ w) (holdsS ho hl) hgl (by rw [hsz]; omega)
  rw [hsz] at hcon
  refine (show Calls Tryz.prog 43 #[.slice (some ⟨g, 0, none⟩) n cap, .func (.func 44) #[] #[]] w _ from hcon).mono ?_
  rintro e w' ⟨rfl, d', k, os, hp, hs, rfl⟩
  have hd : d'.size = n := by rw [hp.1, hsz]
  have hperm : d'.toList.Perm l := by
    rw [← hsz] at hp
    simpa using perm_of hp
  refine ⟨rfl, ⟨d'.toList, hperm, ?_, ?_⟩, sortW_fr⟩
  · rw [← hd] at hs
    exact asc_of hs fun x hx => hr x (hperm.mem_iff.1 hx)
  · exact rd_holds (cap := cap) (holdsK_sortWorldK_c encS 2 w g 0 l.toArray d' k os (holdsS ho hl) hgl (by rw [hd, hsz]))

set_option maxHeartbeats 400000 in
theorem cloneS_any (b o n c : Nat) (l : List Sp) (w : World) (hl : l.length = n) (hrd : Rd w (some ⟨b, o, none⟩) (CS l)) (hn : n ≤ 1000000000) :
    Calls Tryz.prog 42 #[.slice (some ⟨b, o, none⟩) n c] w fun e w' => (∃ g cap, e = .returned (.slice (some ⟨g, 0, none⟩) n cap) ∧ w'.ownsRow w.heap.size 40 2 (.slice (some ⟨g, 0, none⟩) n cap) n (CS l)) ∧ Fr [] w w' := by
  have he := Lib.run_eql_slice_nil (P := Tryz.prog) w 25 40 (some ⟨b, o, none⟩) n c 0 0 Tryz.underlying25
  have hF : Fr [] w (w.alloc (.cells #[] 40)) := (Fr.refl _ _).alloc _
  obtain ⟨v', w', hr, ho, hg, hb⟩ := app_run elL (w.alloc (.cells #[] 40)) w.heap.size 25 (.slice (some ⟨w.heap.size, 0, none⟩) 0 0) 0 [] (World.ownsRow_lit w #[] 0 (Nat.le_refl _) (Nat.zero_le _) rfl)
    (some ⟨b, o, none⟩) n c (CS l) (by rw [CS_length]; omega) (hrd.fr hF (by simp)) (CS_one l) (by simp) (by simp only [maxLen]; omega) (by omega) (by simp)
  have hfr : Fr [] w w' := hF.trans2 (fr_grown hg) (by simp [Value.ownBlock])
  have ho' : w'.ownsRow w.heap.size 40 2 v' n (CS l) := by simpa using ho
  obtain ⟨g, cap, hv⟩ : ∃ g cap, v' = .slice (some ⟨g, 0, none⟩) n cap := by
    rcases ho'.2 with ⟨hv, _⟩ | ⟨g, cap, cur, hv, _⟩
    · exfalso
      rw [hv] at hb
      rcases hb with hb | hb <;> simp [Value.ownBlock] at hb
    · exact ⟨g, cap, hv⟩
  subst hv
  have HO := Lib.hid ho'
  clear ho ho' hg hF hrd hl hb
  go_enter Tryz.func42, Tryz.ntmps42
  go_wp2_with (at_builtin; refine wpList_app rfl _ _ _ rfl hr rfl rfl ?_)
  go_ret
  exact ⟨⟨g, cap, rfl, HO.out⟩, hfr⟩
theorem valuesMk (A : Option Addr) (n c : Nat) (W : World) : Calls Tryz.prog 47 #[.slice A n c] W fun e w' => e = .returned (.func (.func 63) #[] #[.pointer (some ⟨W.heap.size, 0, none⟩)]) ∧ w' = W.alloc (.cells #[.slice A n c] 25) := by
  go_enter Tryz.func47, Tryz.ntmps47
  go_wp2
  go_ret
  exact ⟨rfl, rfl⟩

/-- What Of makes: the set of all numbers of the spans. -/
def OfP (l : List Sp) (w : World) (e : Ending) (w' : World) : Prop :=
  ∃ s : ArgS, e = .returned (.tuple #[.slice s.A s.n s.c, .int .i64 0]) ∧ RSf 0 s.l ∧ (∀ n, hasS s.l n ↔ hasS l n) ∧ s.n ≤ l.length ∧ NewS w w' s
theorem all_take {l : List Sp} {k : Nat} {x : Sp} (hx : l[k]? = some x) (h : ∀ y ∈ l.take k, y.1 ≤ y.2) (h2 : x.1 ≤ x.2) : ∀ y ∈ l.take (k + 1), y.1 ≤ y.2 := by
  obtain ⟨hk, e⟩ := List.getElem?_eq_some_iff.1 hx
  rw [List.take_succ_eq_append_getElem hk, e]
  intro y hy
  rcases List.mem_append.1 hy with hy | hy
  · exact h y hy
  · have : y = x := by simpa using hy
    rw [this]; exact h2
theorem of_many (s : ArgS) (hm : 4096 < s.n) (w : World) : Calls Tryz.prog 24 #[.slice s.A s.n s.c] w fun e w' => e = .returned (.tuple #[.slice none 0 0, .int .i64 5]) ∧ Fr [] w w' := by
  have d1 : decide (4096 < s.n) = true := decide_eq_true hm
  go_enter Tryz.func24, Tryz.ntmps24
  go_wp2_with fail
  go_ret2
  exact ⟨rfl, Fr.refl _ _⟩
set_option maxHeartbeats 2000000 in
theorem of_any (b o : Nat) (s : ArgS) (hA : s.A = some ⟨b, o, none⟩) (hm : s.n ≤ 4096) (w : World) (os : s.Ok w) (E : Bool) (hE : E = true ↔ ∀ x ∈ s.l, x.1 ≤ x.2) :
    Calls Tryz.prog 24 #[.slice s.A s.n s.c] w fun e w' => (E = true ∧ OfP s.l w e w') ∨ (E = false ∧ e = .returned (.tuple #[.slice none 0 0, .int .i64 2]) ∧ Fr [] w w') := by
  obtain ⟨A, n, c, l⟩ := s
  have hR := os.rd
  have HL := Lib.hid os.len
  have HS := Lib.hid os.sb
  simp only at hA hm hR HL HS hE ⊢
  subst hA
  have HE := Lib.hid hE
  have d1 : decide (4096 < n) = false := decide_eq_false (by omega)
  clear os hE
  go_enter Tryz.func24, Tryz.ntmps24
  go_wp2_with fail
  go_loopw [12] (fun i wr => ∃ k : Nat, k ≤ n ∧ i = .int .i64 k ∧ (∀ x ∈ l.take k, x.1 ≤ x.2) ∧ Fr [] w wr) (fun i _ => n - (intOf i).toNat)
  case atStart => exact ⟨0, Nat.zero_le _, rfl, by simp, Fr.refl _ _⟩
  case round =>
    obtain ⟨k, hk, rfl, hT, hF⟩ := hrel
    have HT := Lib.hid hT
    clear hT
    by_cases hlt : k < n
    · obtain ⟨⟨x1, x2⟩, hx⟩ : ∃ x, l[k]? = some x := ⟨_, List.getElem?_eq_getElem (by rw [HL.out]; exact hlt)⟩
      obtain ⟨p1, p2⟩ := rdS_at (hR.fr hF (by simp)) hx
      simp only at p1 p2
      have hi0 : (0 : Int) ≤ (k : Int) ∧ (k : Int) < n := by omega
      have cR := fun W => sright_any x1 x2 W
      have hF2 := hF.alloc (.cells #[.int .u32 x1, .int .u32 x2] 40)
      have HX := Lib.hid hx
      clear hx
      by_cases hr : x1 ≤ x2
      · rw [decide_eq_true hr] at cR
        have HT2 := Lib.hid (all_take HX.out HT.out hr)
        clear hr
        go_wp2_with fail
        refine (cR _).mono ?_
        rintro e w2 ⟨rfl, hG⟩
        clear cR p1 p2
        go_wp2_with fail
        go_roundw
        case rel => exact ⟨k + 1, by omega, by go_num, HT2.out, hF2.trans hG⟩
        case measure => simp [intOf]; omega
      · rw [decide_eq_false hr] at cR
        have hEf : E = false := by
          cases hE : E with
          | false => rfl
          | true => exact absurd (HE.out.1 hE _ (List.mem_of_getElem? HX.out)) hr
        have HEf := Lib.hid hEf
        clear hr hEf
        go_wp2_with fail
        refine (cR _).mono ?_
        rintro e w2 ⟨rfl, hG⟩
        clear cR p1 p2
        go_wp2_with fail
        go_ret2
        exact .inr ⟨HEf.out, rfl, hF2.trans hG⟩
    · obtain rfl : k = n := by omega
      have hall : ∀ x ∈ l, x.1 ≤ x.2 := by
        have := HT.out
        rwa [← HL.out, List.take_length] at this
      have hEt : E = true := HE.out.2 hall
      have HEt := Lib.hid hEt
      have HALL := Lib.hid hall
      clear hall hEt HT
      have cC := cloneS_any b o k c l wr HL.out (hR.fr hF (by simp)) (by omega)
      go_wp2_with fail
      refine cC.mono ?_
      rintro e w2 ⟨⟨g, cap, rfl, ho⟩, hG⟩
      have hgw : w.heap.size ≤ g := Nat.le_trans hF.size (ho.lt g rfl).1
      have hF2 := hF.trans hG
      have hcap : k ≤ cap := by
        obtain ⟨A', c', e', h1, _⟩ := own_slice ho
        injection e' with _ _ e'
        rw [e']; exact h1
      have cS := sort_any g k cap wr.heap.size l w2 ho HL.out HALL.out (by omega)
      clear cC hG hF
      go_wp2_with fail
      refine cS.mono ?_
      rintro e w3 ⟨rfl, ⟨l', hperm, hasc, hrd⟩, hG⟩
      have hF3 : Fr [] w w3 := hF2.trans2 hG (fun t ht => .inr (by simp at ht; omega))
      clear cS hG ho hF2
      go_wp2_with fail
      refine (valuesMk (some ⟨g, 0, none⟩) k cap w3).mono ?_
      rintro e w4 ⟨rfl, hw⟩
      have hF4 : Fr [] w3 w4 := by rw [hw]; exact (Fr.refl _ _).alloc _
      have hbx : w4.cell? ⟨w3.heap.size, 0, none⟩ = some (.slice (some ⟨g, 0, none⟩) k cap) := by rw [hw]; exact new_cell _ _ _ 0 _ rfl
      have hlen' : l'.length = k := by rw [hperm.length_eq]; exact HL.out
      have hsb' : SB l' := fun x hx => HS.out x (hperm.mem_iff.1 hx)
      have oS : (ArgS.mk (some ⟨g, 0, none⟩) k cap l').Ok w4 := ⟨hlen', hsb', hrd.fr hF4 (by simp), by show k ≤ 1000000000; omega, hcap⟩
      have cB := build_val w3.heap.size (ArgS.mk (some ⟨g, 0, none⟩) k cap l') w4 oS hbx
      have hF5 := hF3.trans hF4
      have HP := Lib.hid (And.intro hperm (And.intro hasc hlen'))
      clear hperm hasc hlen' hw hF3 hF4 hbx hsb' oS hrd hcap hgw
      go_wp2_with fail
      refine cB.mono ?_
      rintro e w5 ⟨s, rfl, hs, hN⟩
      have HSS := Lib.hid hs
      clear hs cB
      go_wp2_with fail
      go_ret2
      refine .inl ⟨HEt.out, s, rfl, ?_, fun n => ?_, ?_, hN.pre hF5⟩
      · rw [HSS.out]; exact (buildS_ok HP.out.2.1).1
      · rw [HSS.out]
        exact ((buildS_ok HP.out.2.1).2.2 n).trans (hasS_perm HP.out.1 n)
      · have h1 := buildS_len l'
        have h2 := HP.out.2.2
        have h3 := hN.len
        rw [HSS.out] at h3
        rw [HL.out]
        omega
end Go.Proofs.YtjfadoealhlccaaGreatDoor
