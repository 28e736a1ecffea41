/- A slice of options as it reads; the closures of fault; IndexFunc and ContainsFunc with the first of them. -/
import Derived.Test.YtekhjpiopbkoaaaOfi
namespace Go.Proofs.Ytekhjpiopbkoaaa
open Go.RowKit
set_option linter.unusedVariables false
set_option maxRecDepth 100000

/-- An option in memory. -/
structure Opt where
  k : Nat
  A : Option Addr
  n : Nat
  c : Nat
  d : List UInt8
structure OptOk (w : World) (o : Opt) : Prop where
  rd : Rd w o.A (B8 o.d)
  len : o.d.length = o.n
  n : o.n ≤ 140737488351232
  k : o.k < 256
  nil : o.A = none → o.c = 0
  nc : o.n ≤ o.c
/-- A slice of options reads as these. -/
def RdO (w : World) (A : Option Addr) (l : List Opt) : Prop :=
  ∀ i o, l[i]? = some o → ∃ b off, A = some ⟨b, off, none⟩ ∧ w.cell? ⟨b, off + i * 2, none⟩ = some (.int .u8 o.k) ∧ w.cell? ⟨b, off + i * 2 + 1, none⟩ = some (.slice o.A o.n o.c) ∧ OptOk w o
theorem OptOk.fr {w w' : World} {o : Opt} (h : OptOk w o) (hF : Fr [] w w') : OptOk w' o := ⟨h.rd.fr hF (by simp), h.len, h.n, h.k, h.nil, h.nc⟩
theorem RdO.fr {w w' : World} {A : Option Addr} {l : List Opt} (h : RdO w A l) (hF : Fr [] w w') : RdO w' A l := fun i o hi => by
  obtain ⟨b, off, hA, h1, h2, h3⟩ := h i o hi
  exact ⟨b, off, hA, hF.cell h1 (by simp), hF.cell h2 (by simp), h3.fr hF⟩
theorem cell_no_map {w : World} {p : Addr} {v : Value} {es : Array MapEntry} {cl : Nat} (h : w.cell? p = some v) : w.heap[p.block]? ≠ some (.map es cl) := fun e => by simp [World.cell?, e] at h
/-- The map of a closure may turn. -/
theorem Rd.frm {w w' : World} {A : Option Addr} {xs : List Value} {bm : Nat} {es : Array MapEntry} {cl : Nat} (h : Rd w A xs) (hm : w.heap[bm]? = some (.map es cl)) (hF : Fr [bm] w w') : Rd w' A xs := fun j u hu => by
  obtain ⟨ad, e, hc⟩ := h j u hu
  exact ⟨ad, e, hF.cell hc (by simp; intro hb; exact cell_no_map (es := es) (cl := cl) hc (by rw [hb]; exact hm))⟩
theorem RdO.frm {w w' : World} {A : Option Addr} {l : List Opt} {bm : Nat} {es : Array MapEntry} {cl : Nat} (h : RdO w A l) (hm : w.heap[bm]? = some (.map es cl)) (hF : Fr [bm] w w') : RdO w' A l := fun i o hi => by
  obtain ⟨b, off, hA, h1, h2, h3⟩ := h i o hi
  refine ⟨b, off, hA, hF.cell h1 ?_, hF.cell h2 ?_, ⟨h3.rd.frm hm hF, h3.len, h3.n, h3.k, h3.nil, h3.nc⟩⟩
  · simp; intro hb; exact cell_no_map (es := es) (cl := cl) h1 (by show w.heap[b]? = _; rw [hb]; exact hm)
  · simp; intro hb; exact cell_no_map (es := es) (cl := cl) h2 (by show w.heap[b]? = _; rw [hb]; exact hm)

set_option maxHeartbeats 400000 in
theorem flt1_any (k : Nat) (A : Option Addr) (n c : Nat) (xs : List UInt8) (w : World) (hl : xs.length = n) (hrd : Rd w A (B8 xs)) (hn : n ≤ 140737488351232) (hk : k < 256) :
    Calls Try.prog 35 #[OV k A n c] w fun e w' => e = .returned (.bool (!rightO k xs)) ∧ Fr [] w w' := by
  have hF : Fr [] w (w.alloc (.cells #[.int .u8 k, .slice A n c] 35)) := (Fr.refl _ _).alloc _
  have cR := right6_any k A n c xs (w.alloc (.cells #[.int .u8 k, .slice A n c] 35)) hl (hrd.fr hF (by simp)) hn hk
  generalize rightO k xs = r at cR ⊢
  unfold OV at cR ⊢
  have CR := Lib.hid cR
  clear cR hl hrd
  go_enter Try.func35, Try.ntmps35
  go_wp2_with fail
  refine CR.out.mono ?_
  rintro e w' ⟨rfl, hF1⟩
  go_wp2
  go_ret
  exact ⟨rfl, hF.trans hF1⟩

/-- Where the first one lies for which p holds. -/
def idxI (l : List Opt) (p : Opt → Bool) : Int := match l.findIdx? p with
  | some i => (i : Int)
  | none => -1
theorem idx_at {l : List Opt} {p : Opt → Bool} {k : Nat} {o : Opt} (hk : l[k]? = some o) (hp : p o = true) (hb : ∀ j o', j < k → l[j]? = some o' → p o' = false) : idxI l p = (k : Int) := by
  have hlt : k < l.length := (List.getElem?_eq_some_iff.1 hk).1
  have : l.findIdx? p = some k := by
    rw [List.findIdx?_eq_some_iff_getElem]
    refine ⟨hlt, ?_, fun j hj => ?_⟩
    · rw [(List.getElem?_eq_some_iff.1 hk).2]; exact hp
    · rw [hb j l[j] hj (List.getElem?_eq_getElem (by omega))]; simp
  unfold idxI; rw [this]
theorem idx_no {l : List Opt} {p : Opt → Bool} (hb : ∀ (j : Nat) (o' : Opt), l[j]? = some o' → p o' = false) : idxI l p = -1 := by
  have : l.findIdx? p = none := by
    rw [List.findIdx?_eq_none_iff]
    intro x hx
    obtain ⟨j, hj, rfl⟩ := List.getElem_of_mem hx
    exact hb j _ (List.getElem?_eq_getElem hj)
  unfold idxI; rw [this]
def badO (o : Opt) : Bool := !rightO o.k o.d
def FIdx (w : World) (z : Int) (e : Ending) (w' : World) : Prop := e = .returned (.int .i64 z) ∧ Fr [] w w'
set_option maxHeartbeats 1000000 in
theorem index1 (A : Option Addr) (n c : Nat) (l : List Opt) (w : World) (hl : l.length = n) (hrd : RdO w A l) (hn : n ≤ 140737488351232) :
    Calls Try.prog 31 #[.slice A n c, .func (.func 35) #[] #[]] w (FIdx w (idxI l badO)) := by
  have HL := Lib.hid hl
  clear hl
  go_enter Try.func31, Try.ntmps31
  go_wp2
  go_loopw [8] (fun i wr => ∃ k : Nat, k ≤ n ∧ i = .int .i64 k ∧ (∀ j o', j < k → l[j]? = some o' → badO o' = false) ∧ Fr [] w wr) (fun i _ => n - (intOf i).toNat)
  case atStart => exact ⟨0, Nat.zero_le _, rfl, fun j o' h => by omega, Fr.refl _ _⟩
  case round =>
    obtain ⟨k, hk, rfl, hb, hF⟩ := hrel
    by_cases hlt : k < n
    · obtain ⟨o, ho⟩ : ∃ o, l[k]? = some o := ⟨_, List.getElem?_eq_getElem (by rw [HL.out]; exact hlt)⟩
      obtain ⟨b, off, rfl, h1, h2, h3⟩ := (hrd.fr hF) k o ho
      have cF := flt1_any o.k o.A o.n o.c o.d wr h3.len h3.rd h3.n h3.k
      unfold OV at cF
      have hlti : (k : Int) < (n : Int) := by omega
      have wk : IntKind.i64.wrap ((k : Int) + 1) = (k : Int) + 1 := IntWalk.i64_in _ (by omega)
      have wk2 : ((k : Int) + 1) = ((k + 1 : Nat) : Int) := by omega
      have HO := Lib.hid ho
      have HB := Lib.hid hb
      have HF := Lib.hid hF
      have WK := Lib.hid wk2
      cases hr : rightO o.k o.d with
      | true =>
        rw [hr] at cF
        have CF := Lib.hid cF
        have HR := Lib.hid hr
        clear cF ho hb hF hr h3 wk2
        go_wp2_with fail
        refine CF.out.mono ?_
        rintro e w5 ⟨rfl, hF5⟩
        have HF5 := Lib.hid (HF.out.trans hF5)
        clear hF5 h1 h2
        go_wp2_with fail
        refine ⟨⟨k + 1, by omega, by rw [WK.out], fun j o' hj hjo => ?_, HF5.out⟩, by simp [intOf]; omega⟩
        rcases Nat.lt_or_ge j k with h | h
        · exact HB.out j o' h hjo
        · obtain rfl : j = k := by omega
          rw [HO.out] at hjo
          injection hjo with hjo
          subst hjo
          unfold badO; rw [HR.out]; rfl
      | false =>
        rw [hr] at cF
        have CF := Lib.hid cF
        have HR := Lib.hid hr
        clear cF ho hb hF hr h3 wk2
        go_wp2_with fail
        refine CF.out.mono ?_
        rintro e w5 ⟨rfl, hF5⟩
        have HF5 := Lib.hid (HF.out.trans hF5)
        clear hF5 h1 h2
        go_wp2_with fail
        go_ret
        exact ⟨ret_int (idx_at HO.out (by unfold badO; rw [HR.out]; rfl) HB.out).symm, HF5.out⟩
    · have hlti : ¬ (k : Int) < (n : Int) := by omega
      have hI := idx_no (l := l) (p := badO) (fun j o' hj => hb j o' (by have := (List.getElem?_eq_some_iff.1 hj).1; rw [HL.out] at this; omega) hj)
      have HI := Lib.hid hI
      have HF := Lib.hid hF
      clear hI hb hF
      go_wp2_with fail
      go_ret
      exact ⟨ret_int HI.out.symm, HF.out⟩
theorem idx_any {l : List Opt} {p : Opt → Bool} : decide (0 ≤ idxI l p) = l.any p := by
  unfold idxI
  cases h : l.findIdx? p with
  | none =>
    rw [List.findIdx?_eq_none_iff] at h
    have : l.any p = false := by rw [List.any_eq_false]; intro x hx; simpa using h x hx
    rw [this]; rfl
  | some i =>
    rw [List.findIdx?_eq_some_iff_getElem] at h
    obtain ⟨hi, hp, _⟩ := h
    have : l.any p = true := List.any_eq_true.2 ⟨l[i], List.getElem_mem hi, hp⟩
    rw [this]; simp
set_option maxHeartbeats 400000 in
theorem contains1 (A : Option Addr) (n c : Nat) (l : List Opt) (w : World) (hl : l.length = n) (hrd : RdO w A l) (hn : n ≤ 140737488351232) :
    Calls Try.prog 33 #[.slice A n c, .func (.func 35) #[] #[]] w fun e w' => e = .returned (.bool (l.any badO)) ∧ Fr [] w w' := by
  have cI := index1 A n c l w hl hrd hn
  rw [← idx_any]
  generalize idxI l badO = z at cI ⊢
  have hd : decide (0 ≤ z) = decide (0 ≤ z) := rfl
  have CI := Lib.hid cI
  clear cI hl hrd hd
  go_enter Try.func33, Try.ntmps33
  go_wp2_with fail
  refine CI.out.mono ?_
  rintro e w' ⟨rfl, hF⟩
  go_wp2
  go_ret
  exact ⟨rfl, hF⟩

/-- Do two of a list exclude one another, some groups being taken already? -/
def twB : List Nat → List Opt → Bool
  | _, [] => false
  | gs, o :: r => if grp o.k = 0 then twB gs r else if grp o.k ∈ gs then true else twB (gs ++ [grp o.k]) r
def FunP (w : World) (bf bx : Nat) : Prop := w.heap[bf]? = some (.cells #[.func (.func 37) #[] #[.pointer (some ⟨bx, 0, none⟩)]] 62 (0, 0))
theorem FunP.cell {w : World} {bf bx : Nat} (h : FunP w bf bx) : w.cell? ⟨bf, 0, none⟩ = some (.func (.func 37) #[] #[.pointer (some ⟨bx, 0, none⟩)]) := by unfold FunP at h; simp [World.cell?, h]
theorem FunP.frm {w w' : World} {bf bx bm : Nat} {es : Array MapEntry} {cl : Nat} (h : FunP w bf bx) (hm : w.heap[bm]? = some (.map es cl)) (hF : Fr [bm] w w') : FunP w' bf bx := hF.blk h (by
  simp; intro e; unfold FunP at h; rw [e, hm] at h; cases h)
theorem Exc.ne {w : World} {bm bx : Nat} {gs : List Nat} (h : Exc w bm bx gs) : bm ≠ bx := fun e => by have h1 := h.m; have h2 := h.x; rw [e, h2] at h1; cases h1
/-- What the closure of fault answers, and what becomes of the map. -/
def Flt2 (w : World) (bm bx : Nat) (gs : List Nat) (k : Nat) (e : Ending) (w' : World) : Prop :=
  Fr [bm] w w' ∧ ((grp k = 0 ∧ e = .returned (.bool false) ∧ Exc w' bm bx gs) ∨ (grp k ≠ 0 ∧ grp k ∈ gs ∧ e = .returned (.bool true)) ∨ (grp k ≠ 0 ∧ grp k ∉ gs ∧ e = .returned (.bool false) ∧ Exc w' bm bx (gs ++ [grp k])))
theorem exc_any (k : Nat) (bm bx : Nat) (gs : List Nat) (w : World) (hE : Exc w bm bx gs) :
    Calls Try.prog 37 #[.int .u8 k, .pointer (some ⟨bx, 0, none⟩)] w (Flt2 w bm bx gs k) := by
  by_cases h0 : grp k = 0
  · refine (exc_none k bm bx gs w h0).mono ?_
    rintro e w' ⟨rfl, rfl⟩
    exact ⟨Fr.refl _ _, .inl ⟨h0, rfl, hE⟩⟩
  · by_cases hm : grp k ∈ gs
    · refine (exc_old k bm bx gs w h0 hE hE.ne hm).mono ?_
      rintro e w' ⟨rfl, hF⟩
      exact ⟨hF, .inr (.inl ⟨h0, hm, rfl⟩)⟩
    · refine (exc_new k bm bx gs w h0 hE hE.ne hm).mono ?_
      rintro e w' ⟨rfl, hE', hF⟩
      exact ⟨hF, .inr (.inr ⟨h0, hm, rfl, hE'⟩)⟩
end Go.Proofs.Ytekhjpiopbkoaaa
