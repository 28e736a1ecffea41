/- Readers. -/
import Derived.Test.YtbgikpbhjeanoaaCl
import Derived.Test.YtbgikpbhjeanoaaNum
namespace Go.Proofs.Ytbgikpbhjeanoaa
open Go.RowKit

theorem ptrR : Try.prog.underlying 45 = some (.pointer 90) := by kernel_rfl
theorem infoR : ∃ j, Try.prog.info? 90 = some j := by
  have h : (Try.prog.info? 90).isSome = true := by kernel_rfl
  exact Option.isSome_iff_exists.1 h
theorem eqR (a : Addr) (w : World) : (binOp .eql 45 (.pointer (some a)) (.pointer (some a))).run Try.prog w = .ok (.bool true) w := by
  obtain ⟨j, hj⟩ := infoR
  exact run_eql_ptr_same w a ptrR hj

/-- Block g is a reader of bs, at a position, failed or not; v holds its bytes. -/
structure RdAt (w : World) (base g : Nat) (v : Value) (bs : List UInt8) (at_ : Nat) (f : Bool) : Prop where
  blk : w.heap[g]? = some (.cells #[.pointer (some ⟨g, 0, none⟩), v, .int .i64 at_, .bool f] 90 (0, 0))
  own : w.ownsRow base 5 1 v bs.length (B8 bs)
  ne : v.ownBlock ≠ some g
  lo : base ≤ g
  at_le : at_ ≤ bs.length
  len : bs.length ≤ 131072

theorem RdAt.fr {w w' : World} {S : List Nat} {base g : Nat} {v : Value} {bs : List UInt8} {at_ : Nat} {f : Bool} (h : RdAt w base g v bs at_ f) (hf : Fr S w w') (hg : g ∉ S) (hv : ∀ k, v.ownBlock = some k → k ∉ S) : RdAt w' base g v bs at_ f :=
  ⟨hf.blk h.blk hg, hf.own h.own hv, h.ne, h.lo, h.at_le, h.len⟩

set_option maxRecDepth 20000 in
set_option maxHeartbeats 400000 in
theorem madeR (g : Nat) (w : World) (h0 : w.cell? ⟨g, 0, none⟩ = some (.pointer (some ⟨g, 0, none⟩))) :
    Calls Try.prog 57 #[.pointer (some ⟨g, 0, none⟩)] w fun e w' => e = .returned (.bool true) ∧ w = w' := by
  have he := eqR ⟨g, 0, none⟩ w
  go_enter Try.func57, Try.ntmps57
  go_wp2
  go_ret
  exact ⟨rfl, rfl⟩

section
variable {w : World} {base g : Nat} {v : Value} {bs : List UInt8} {at_ : Nat} {f : Bool}
theorem RdAt.c0 (h : RdAt w base g v bs at_ f) : w.cell? ⟨g, 0, none⟩ = some (.pointer (some ⟨g, 0, none⟩)) := by simp [World.cell?, h.blk]
theorem RdAt.c1 (h : RdAt w base g v bs at_ f) : w.cell? ⟨g, 1, none⟩ = some v := by simp [World.cell?, h.blk]
theorem RdAt.c2 (h : RdAt w base g v bs at_ f) : w.cell? ⟨g, 2, none⟩ = some (.int .i64 at_) := by simp [World.cell?, h.blk]
theorem RdAt.c3 (h : RdAt w base g v bs at_ f) : w.cell? ⟨g, 3, none⟩ = some (.bool f) := by simp [World.cell?, h.blk]
theorem RdAt.fz (h : RdAt w base g v bs at_ f) (i : Nat) : w.frozen? ⟨g, i, none⟩ = false := by simp [World.frozen?, h.blk]
theorem RdAt.set2 (h : RdAt w base g v bs at_ f) {m : Nat} (hm : m ≤ bs.length) : RdAt (w.setCell ⟨g, 2, none⟩ (.int .i64 m)) base g v bs m f := by
  refine ⟨?_, ownsRow_setCell_other h.own h.ne _, h.ne, h.lo, hm, h.len⟩
  simp [World.setCell, Array.getElem?_modify, h.blk]
theorem RdAt.set3 (h : RdAt w base g v bs at_ f) (f' : Bool) : RdAt (w.setCell ⟨g, 3, none⟩ (.bool f')) base g v bs at_ f' := by
  refine ⟨?_, ownsRow_setCell_other h.own h.ne _, h.ne, h.lo, h.at_le, h.len⟩
  simp [World.setCell, Array.getElem?_modify, h.blk]
theorem RdAt.alk {w' : World} (h : RdAt w base g v bs at_ f) (e1 : w'.heap = w.heap) : RdAt w' base g v bs at_ f := ⟨by rw [e1]; exact h.blk, own_alk h.own e1, h.ne, h.lo, h.at_le, h.len⟩
theorem RdAt.drewN (h : RdAt w base g v bs at_ f) (n : Nat) : RdAt (w.drewN n) base g v bs at_ f := ⟨h.blk, h.own, h.ne, h.lo, h.at_le, h.len⟩
theorem fr_set (w : World) (g i : Nat) (u : Value) : Fr [g] w (w.setCell ⟨g, i, none⟩ u) := (Fr.refl _ w).setCell (.inl (by simp)) u
end

def TakeYes (w : World) (base g : Nat) (v : Value) (bs : List UInt8) (at_ m : Nat) (e : Ending) (w' : World) : Prop :=
  ∃ A c, e = .returned (.slice A m c) ∧ Rd w' A (B8 ((bs.drop at_).take m)) ∧ RdAt w' base g v bs (at_ + m) false ∧ Fr [g] w w' ∧ (∀ ad, A = some ad → v.ownBlock = some ad.block)

set_option maxRecDepth 20000 in
set_option maxHeartbeats 400000 in
theorem take_yes {w : World} {base g : Nat} {v : Value} {bs : List UInt8} {at_ m : Nat} (h : RdAt w base g v bs at_ false) (hm : at_ + m ≤ bs.length) :
    Calls Try.prog 59 #[.pointer (some ⟨g, 0, none⟩), .int .i64 m] w (TakeYes w base g v bs at_ m) := by
  obtain ⟨A, c, rfl, hc, hc2, hA⟩ := own_slice h.own
  have hlen := h.len
  have h0 := h.c0
  have h1 := h.c1
  have h2 := h.c2
  have h3 := h.c3
  have hf2 := h.fz 2
  have hR := h.set2 hm
  have hF := fr_set w g 2 (.int .i64 (at_ + m : Nat))
  have hrd : Rd (w.setCell ⟨g, 2, none⟩ (.int .i64 (at_ + m : Nat))) (if c = at_ then A else A.map (·.add at_)) (B8 ((bs.drop at_).take m)) := by
    have hx := ((Rd.own hR.own).cut (k := at_) (cap := c) (by rw [B8_length]; exact hc)).take m
    rwa [B8_drop, B8_take] at hx
  have hAd : ∀ ad, (if c = at_ then A else A.map (·.add at_)) = some ad → (Value.slice A bs.length c).ownBlock = some ad.block := by
    intro ad had
    by_cases e : c = at_
    · rw [if_pos e] at had; exact hA ad had
    · rw [if_neg e] at had
      cases A with
      | none => cases had
      | some a => injection had with had; subst had; rw [add_block]; rfl
  generalize hE : (if c = at_ then A else A.map (·.add at_)) = E at hrd hAd
  have HE := Lib.hid hE
  have HR := Lib.hid hR
  have HAd := Lib.hid hAd
  clear hE hR hAd hA h
  have hw1 : IntKind.i64.wrap ((bs.length : Int) - at_) = (bs.length : Int) - at_ := IntWalk.i64_in _ (by omega)
  have hd1 : decide ((m : Int) < 0) = false := by simp
  have hd2 : decide ((bs.length : Int) - at_ < m) = false := by simp; omega
  go_enter Try.func59, Try.ntmps59
  go_wp2_with (go_at_call 57; refine (madeR _ _ h0).mono ?_; rintro e w' ⟨rfl, rfl⟩)
  go_quiet (fail)
  go_wp2
  go_quiet (fail)
  go_wp2
  all_goals go_ret
  · have e := HE.out
    have hcat : c = at_ := by assumption
    rw [if_pos hcat] at e
    subst e
    subst hcat
    exact ⟨_, _, rfl, hrd.alk rfl, HR.out.alk rfl, hF.alk rfl rfl rfl rfl, HAd.out⟩
  · have e := HE.out
    rw [if_neg (by assumption)] at e
    subst e
    exact ⟨_, _, rfl, hrd.alk rfl, HR.out.alk rfl, hF.alk rfl rfl rfl rfl, HAd.out⟩

set_option maxRecDepth 20000 in
set_option maxHeartbeats 400000 in
theorem take_no1 {w : World} {base g : Nat} {v : Value} {bs : List UInt8} {at_ : Nat} {m : Int} (h : RdAt w base g v bs at_ true) :
    Calls Try.prog 59 #[.pointer (some ⟨g, 0, none⟩), .int .i64 m] w fun e w' => e = .returned (.slice none 0 0) ∧ RdAt w' base g v bs at_ true ∧ Fr [g] w w' := by
  have h0 := h.c0
  have h3 := h.c3
  have hf3 := h.fz 3
  have hR := h.set3 true
  have hF := fr_set w g 3 (.bool true)
  have HR := Lib.hid hR
  clear hR h
  go_enter Try.func59, Try.ntmps59
  go_wp2_with (go_at_call 57; refine (madeR _ _ h0).mono ?_; rintro e w' ⟨rfl, rfl⟩)
  go_quiet (fail)
  go_wp2
  go_ret
  exact ⟨rfl, HR.out.alk rfl, hF.alk rfl rfl rfl rfl⟩

set_option maxRecDepth 20000 in
set_option maxHeartbeats 400000 in
theorem take_no2 {w : World} {base g : Nat} {v : Value} {bs : List UInt8} {at_ : Nat} {m : Int} (h : RdAt w base g v bs at_ false) (hm : m < 0) :
    Calls Try.prog 59 #[.pointer (some ⟨g, 0, none⟩), .int .i64 m] w fun e w' => e = .returned (.slice none 0 0) ∧ RdAt w' base g v bs at_ true ∧ Fr [g] w w' := by
  have h0 := h.c0
  have h3 := h.c3
  have hf3 := h.fz 3
  have hR := h.set3 true
  have hF := fr_set w g 3 (.bool true)
  have HR := Lib.hid hR
  clear hR h
  have hd : decide (m < 0) = true := by simpa using hm
  go_enter Try.func59, Try.ntmps59
  go_wp2_with (go_at_call 57; refine (madeR _ _ h0).mono ?_; rintro e w' ⟨rfl, rfl⟩)
  go_quiet (fail)
  go_wp2
  go_ret
  exact ⟨rfl, HR.out.alk rfl, hF.alk rfl rfl rfl rfl⟩

set_option maxRecDepth 20000 in
set_option maxHeartbeats 400000 in
theorem take_no3 {w : World} {base g : Nat} {v : Value} {bs : List UInt8} {at_ : Nat} {m : Int} (h : RdAt w base g v bs at_ false) (hm : 0 ≤ m) (hm2 : bs.length < at_ + m) :
    Calls Try.prog 59 #[.pointer (some ⟨g, 0, none⟩), .int .i64 m] w fun e w' => e = .returned (.slice none 0 0) ∧ RdAt w' base g v bs at_ true ∧ Fr [g] w w' := by
  obtain ⟨A, c, rfl, hc, hc2, _⟩ := own_slice h.own
  have hlen := h.len
  have hle := h.at_le
  have h0 := h.c0
  have h1 := h.c1
  have h2 := h.c2
  have h3 := h.c3
  have hf3 := h.fz 3
  have hR := h.set3 true
  have hF := fr_set w g 3 (.bool true)
  have HR := Lib.hid hR
  clear hR h
  have hw1 : IntKind.i64.wrap ((bs.length : Int) - at_) = (bs.length : Int) - at_ := IntWalk.i64_in _ (by omega)
  have hd1 : decide (m < 0) = false := by simpa using hm
  have hd2 : decide ((bs.length : Int) - at_ < m) = true := by simp; omega
  go_enter Try.func59, Try.ntmps59
  go_wp2_with (go_at_call 57; refine (madeR _ _ h0).mono ?_; rintro e w' ⟨rfl, rfl⟩)
  go_quiet (fail)
  go_wp2
  go_ret
  exact ⟨rfl, HR.out.alk rfl, hF.alk rfl rfl rfl rfl⟩

theorem take_no {w : World} {base g : Nat} {v : Value} {bs : List UInt8} {at_ : Nat} {m : Int} {f : Bool} (h : RdAt w base g v bs at_ f) (hm : f = true ∨ m < 0 ∨ bs.length < at_ + m) :
    Calls Try.prog 59 #[.pointer (some ⟨g, 0, none⟩), .int .i64 m] w fun e w' => e = .returned (.slice none 0 0) ∧ RdAt w' base g v bs at_ true ∧ Fr [g] w w' := by
  cases f with
  | true => exact take_no1 h
  | false =>
    by_cases h1 : m < 0
    · exact take_no2 h h1
    · exact take_no3 h (by omega) (by rcases hm with hm | hm | hm; cases hm; omega; exact hm)

theorem get_of_eq {α : Type} {l : List α} {a : List α} (h : l = a) (i : Nat) : l[i]? = a[i]? := by rw [h]

def RdNo (w : World) (base g : Nat) (v : Value) (bs : List UInt8) (at_ : Nat) (r : Value) (e : Ending) (w' : World) : Prop := e = .returned r ∧ RdAt w' base g v bs at_ true ∧ Fr [g] w w'
def RdYes (w : World) (base g : Nat) (v : Value) (bs : List UInt8) (at_ : Nat) (r : Value) (e : Ending) (w' : World) : Prop := e = .returned r ∧ RdAt w' base g v bs at_ false ∧ Fr [g] w w'

theorem len_split {l : List UInt8} {n : Nat} (h : l.length = n + 1) : ∃ x r, l = x :: r ∧ r.length = n := by
  cases l with
  | nil => simp at h
  | cons x r => exact ⟨x, r, rfl, by simpa using h⟩

theorem addr_of {w : World} {ad : Addr} {u : Value} (h : w.cell? ad = some u) : ∃ b o, ad = ⟨b, o, none⟩ := by
  obtain ⟨b, o, s⟩ := ad
  cases s with
  | none => exact ⟨b, o, rfl⟩
  | some s =>
    exfalso
    unfold World.cell? at h
    split at h <;> simp at h

theorem add_lit (b o j : Nat) : (⟨b, o, none⟩ : Addr).add j = ⟨b, o + j, none⟩ := by unfold Addr.add; split <;> simp_all

/-- The cells of bytes that are read, one by one. -/
theorem rd1 {w : World} {A : Option Addr} {x : UInt8} (h : Rd w A (B8 [x])) : ∃ b o, A = some ⟨b, o, none⟩ ∧ w.cell? ⟨b, o, none⟩ = some (.int .u8 x.toNat) := by
  obtain ⟨ad, rfl, hc⟩ := h 0 _ rfl
  have hc' : w.cell? ad = some (.int .u8 x.toNat) := by simpa [Addr.add] using hc
  obtain ⟨b, o, rfl⟩ := addr_of hc'
  exact ⟨b, o, rfl, hc'⟩
theorem rdj {w : World} {b o : Nat} {l : List UInt8} (h : Rd w (some ⟨b, o, none⟩) (B8 l)) (j : Nat) (x : UInt8) (hx : l[j]? = some x) : w.cell? ⟨b, o + j, none⟩ = some (.int .u8 x.toNat) := by
  have := h.get (j := j) (u := .int .u8 x.toNat) (by rw [B8_get, hx]; rfl)
  rwa [add_lit] at this

section
variable {w : World} {base g : Nat} {v : Value} {bs : List UInt8} {at_ : Nat} {f : Bool}

set_option maxRecDepth 20000 in
set_option maxHeartbeats 400000 in
theorem rU8_yes (h : RdAt w base g v bs at_ false) {x : UInt8} (hx : (bs.drop at_).take 1 = [x]) :
    Calls Try.prog 26 #[.pointer (some ⟨g, 0, none⟩)] w (RdYes w base g v bs (at_ + 1) (.int .u8 x.toNat)) := by
  have hm : at_ + 1 ≤ bs.length := by have := congrArg List.length hx; simp at this; omega
  go_enter Try.func26, Try.ntmps26
  go_wp2_with fail
  refine (take_yes h (m := 1) hm).mono ?_
  rintro e w1 ⟨A, c, rfl, hr, hR, hF, -⟩
  rw [hx] at hr
  obtain ⟨b, o, rfl, hc⟩ := rd1 hr
  go_wp2_with fail
  refine (num8 b o x c _ hc).mono ?_
  rintro e w2 ⟨rfl, rfl⟩
  go_wp2_with fail
  go_ret
  exact ⟨rfl, hR, hF⟩

set_option maxRecDepth 20000 in
set_option maxHeartbeats 400000 in
theorem rU8_no (h : RdAt w base g v bs at_ f) (hm : f = true ∨ bs.length < at_ + 1) :
    Calls Try.prog 26 #[.pointer (some ⟨g, 0, none⟩)] w (RdNo w base g v bs at_ (.int .u8 0)) := by
  go_enter Try.func26, Try.ntmps26
  go_wp2_with fail
  refine (take_no h (m := 1) (by rcases hm with hm | hm; exact .inl hm; exact .inr (.inr (by omega)))).mono ?_
  rintro e w1 ⟨rfl, hR, hF⟩
  go_wp2_with fail
  refine (num8_0 none 0 _).mono ?_
  rintro e w2 ⟨rfl, rfl⟩
  go_wp2_with fail
  go_ret
  exact ⟨rfl, hR, hF⟩

set_option maxRecDepth 20000 in
set_option maxHeartbeats 400000 in
theorem rU16_yes (h : RdAt w base g v bs at_ false) {x y : UInt8} (hx : (bs.drop at_).take 2 = [x, y]) :
    Calls Try.prog 27 #[.pointer (some ⟨g, 0, none⟩)] w (RdYes w base g v bs (at_ + 2) (.int .u16 (256 * x.toNat + y.toNat : Nat))) := by
  have hm : at_ + 2 ≤ bs.length := by have := congrArg List.length hx; simp at this; omega
  go_enter Try.func27, Try.ntmps27
  go_wp2_with fail
  refine (take_yes h (m := 2) hm).mono ?_
  rintro e w1 ⟨A, c, rfl, hr, hR, hF, -⟩
  rw [hx] at hr
  obtain ⟨b, o, rfl, hc⟩ := rd1 (hr.take 1)
  have hc1 := rdj hr 1 y rfl
  go_wp2_with fail
  refine (num16 b o x y c _ hc hc1).mono ?_
  rintro e w2 ⟨rfl, rfl⟩
  go_wp2_with fail
  go_ret
  exact ⟨rfl, hR, hF⟩

set_option maxRecDepth 20000 in
set_option maxHeartbeats 400000 in
theorem rU16_no (h : RdAt w base g v bs at_ f) (hm : f = true ∨ bs.length < at_ + 2) :
    Calls Try.prog 27 #[.pointer (some ⟨g, 0, none⟩)] w (RdNo w base g v bs at_ (.int .u16 0)) := by
  go_enter Try.func27, Try.ntmps27
  go_wp2_with fail
  refine (take_no h (m := 2) (by rcases hm with hm | hm; exact .inl hm; exact .inr (.inr (by omega)))).mono ?_
  rintro e w1 ⟨rfl, hR, hF⟩
  go_wp2_with fail
  refine (num16_0 none 0 _).mono ?_
  rintro e w2 ⟨rfl, rfl⟩
  go_wp2_with fail
  go_ret
  exact ⟨rfl, hR, hF⟩

set_option maxRecDepth 20000 in
set_option maxHeartbeats 400000 in
theorem rU32_yes (h : RdAt w base g v bs at_ false) {x y z u : UInt8} (hx : (bs.drop at_).take 4 = [x, y, z, u]) :
    Calls Try.prog 28 #[.pointer (some ⟨g, 0, none⟩)] w (RdYes w base g v bs (at_ + 4) (.int .u32 (256 * (256 * (256 * x.toNat + y.toNat) + z.toNat) + u.toNat : Nat))) := by
  have hm : at_ + 4 ≤ bs.length := by have := congrArg List.length hx; simp at this; omega
  go_enter Try.func28, Try.ntmps28
  go_wp2_with fail
  refine (take_yes h (m := 4) hm).mono ?_
  rintro e w1 ⟨A, c, rfl, hr, hR, hF, -⟩
  rw [hx] at hr
  obtain ⟨b, o, rfl, hc⟩ := rd1 (hr.take 1)
  have hc1 := rdj hr 1 y rfl
  have hc2 := rdj hr 2 z rfl
  have hc3 := rdj hr 3 u rfl
  go_wp2_with fail
  refine (num32 b o x y z u c _ hc hc1 hc2 hc3).mono ?_
  rintro e w2 ⟨rfl, rfl⟩
  go_wp2_with fail
  go_ret
  exact ⟨rfl, hR, hF⟩

set_option maxRecDepth 20000 in
set_option maxHeartbeats 400000 in
theorem rU32_no (h : RdAt w base g v bs at_ f) (hm : f = true ∨ bs.length < at_ + 4) :
    Calls Try.prog 28 #[.pointer (some ⟨g, 0, none⟩)] w (RdNo w base g v bs at_ (.int .u32 0)) := by
  go_enter Try.func28, Try.ntmps28
  go_wp2_with fail
  refine (take_no h (m := 4) (by rcases hm with hm | hm; exact .inl hm; exact .inr (.inr (by omega)))).mono ?_
  rintro e w1 ⟨rfl, hR, hF⟩
  go_wp2_with fail
  refine (num32_0 none 0 _).mono ?_
  rintro e w2 ⟨rfl, rfl⟩
  go_wp2_with fail
  go_ret
  exact ⟨rfl, hR, hF⟩

set_option maxRecDepth 20000 in
set_option maxHeartbeats 400000 in
theorem rSkip_yes (h : RdAt w base g v bs at_ false) {m : Nat} (hm : at_ + m ≤ bs.length) :
    Calls Try.prog 34 #[.pointer (some ⟨g, 0, none⟩), .int .i64 m] w (RdYes w base g v bs (at_ + m) (.tuple #[])) := by
  go_enter Try.func34, Try.ntmps34
  go_wp2_with fail
  refine (take_yes h hm).mono ?_
  rintro e w1 ⟨A, c, rfl, hr, hR, hF, -⟩
  go_wp2_with fail
  go_end0
  exact ⟨rfl, hR, hF⟩

set_option maxRecDepth 20000 in
set_option maxHeartbeats 400000 in
theorem rSkip_no (h : RdAt w base g v bs at_ f) {m : Int} (hm : f = true ∨ m < 0 ∨ bs.length < at_ + m) :
    Calls Try.prog 34 #[.pointer (some ⟨g, 0, none⟩), .int .i64 m] w (RdNo w base g v bs at_ (.tuple #[])) := by
  go_enter Try.func34, Try.ntmps34
  go_wp2_with fail
  refine (take_no h hm).mono ?_
  rintro e w1 ⟨rfl, hR, hF⟩
  go_wp2_with fail
  go_end0
  exact ⟨rfl, hR, hF⟩

def BytesYes (w : World) (base g : Nat) (v : Value) (bs : List UInt8) (at_ m : Nat) (e : Ending) (w' : World) : Prop :=
  ∃ u, e = .returned u ∧ w'.ownsRow w.heap.size 5 1 u m (B8 ((bs.drop at_).take m)) ∧ RdAt w' base g v bs (at_ + m) false ∧ Fr [g] w w'

set_option maxRecDepth 20000 in
set_option maxHeartbeats 400000 in
theorem rBytes_yes (h : RdAt w base g v bs at_ false) {m : Nat} (hm : at_ + m ≤ bs.length) :
    Calls Try.prog 30 #[.pointer (some ⟨g, 0, none⟩), .int .i64 m] w (BytesYes w base g v bs at_ m) := by
  have hlen := h.len
  have hlv := h.own.lt
  have hlg := lt_of_block h.blk
  go_enter Try.func30, Try.ntmps30
  go_wp2_with fail
  refine (take_yes h hm).mono ?_
  rintro e w1 ⟨A, c, rfl, hr, hR, hF, -⟩
  go_wp2_with fail
  refine (clone A m c _ _ (by simp; omega) hr (by omega)).mono ?_
  rintro e w2 ⟨u, rfl, ho, hF2⟩
  have hsz := hF.size
  have hR2 := hR.fr hF2 (by simp) (by simp)
  have hF3 : Fr [g] w w2 := hF.trans2 hF2 (by simp)
  have ho2 := own_ext ho hsz
  go_wp2_with fail
  go_ret
  exact ⟨_, rfl, ho2, hR2, hF3⟩

set_option maxRecDepth 20000 in
set_option maxHeartbeats 400000 in
theorem rBytes_no (h : RdAt w base g v bs at_ f) {m : Int} (hm : f = true ∨ m < 0 ∨ bs.length < at_ + m) :
    Calls Try.prog 30 #[.pointer (some ⟨g, 0, none⟩), .int .i64 m] w (RdNo w base g v bs at_ (.slice none 0 0)) := by
  go_enter Try.func30, Try.ntmps30
  go_wp2_with fail
  refine (take_no h hm).mono ?_
  rintro e w1 ⟨rfl, hR, hF⟩
  go_wp2_with fail
  refine (clone_nil 0 0 _).mono ?_
  rintro e w2 ⟨rfl, rfl⟩
  go_wp2_with fail
  go_ret
  exact ⟨rfl, hR, hF⟩

set_option maxRecDepth 20000 in
set_option maxHeartbeats 400000 in
theorem rLeft (h : RdAt w base g v bs at_ f) :
    Calls Try.prog 31 #[.pointer (some ⟨g, 0, none⟩)] w fun e w' => e = .returned (.int .i64 ((bs.length : Int) - at_)) ∧ RdAt w' base g v bs at_ f ∧ Fr [] w w' := by
  obtain ⟨A, c, rfl, hc, hc2, _⟩ := own_slice h.own
  have hlen := h.len
  have hle := h.at_le
  have h0 := h.c0
  have h1 := h.c1
  have h2 := h.c2
  have H := Lib.hid h
  clear h
  have hw1 : IntKind.i64.wrap ((bs.length : Int) - at_) = (bs.length : Int) - at_ := IntWalk.i64_in _ (by omega)
  go_enter Try.func31, Try.ntmps31
  go_wp2_with (go_at_call 57; refine (madeR _ _ h0).mono ?_; rintro e w' ⟨rfl, rfl⟩)
  go_quiet (fail)
  go_wp2
  go_ret
  exact ⟨rfl, H.out.alk rfl, (Fr.refl _ w).alk rfl rfl rfl rfl⟩

set_option maxRecDepth 20000 in
set_option maxHeartbeats 400000 in
theorem rAt (h : RdAt w base g v bs at_ f) :
    Calls Try.prog 32 #[.pointer (some ⟨g, 0, none⟩)] w fun e w' => e = .returned (.int .i64 at_) ∧ w = w' := by
  have h0 := h.c0
  have h2 := h.c2
  clear h
  go_enter Try.func32, Try.ntmps32
  go_wp2_with (go_at_call 57; refine (madeR _ _ h0).mono ?_; rintro e w' ⟨rfl, rfl⟩)
  go_ret
  exact ⟨rfl, rfl⟩

set_option maxRecDepth 20000 in
set_option maxHeartbeats 400000 in
theorem rFailed (h : RdAt w base g v bs at_ f) :
    Calls Try.prog 25 #[.pointer (some ⟨g, 0, none⟩)] w fun e w' => e = .returned (.bool f) ∧ w = w' := by
  have h0 := h.c0
  have h3 := h.c3
  clear h
  go_enter Try.func25, Try.ntmps25
  go_wp2_with (go_at_call 57; refine (madeR _ _ h0).mono ?_; rintro e w' ⟨rfl, rfl⟩)
  go_ret
  exact ⟨rfl, rfl⟩
end

end Go.Proofs.Ytbgikpbhjeanoaa
