/- appendTo; Write. -/
import Derived.Test.YtekhjpiopbkoaaaOft
import Derived.Test.YtekhjpiopbkoaaaApp
namespace Go.Proofs.Ytekhjpiopbkoaaa
open Go.RowKit
set_option linter.unusedVariables false
set_option maxRecDepth 100000

/-- The bytes of an option. -/
def optB (o : Opt) : List UInt8 := if o.k = 1 then [1] else UInt8.ofNat o.k :: UInt8.ofNat (2 + o.n) :: o.d
/-- A row of bytes of our own, apart from all that u holds. -/
def AppP (u : World) (bs : List UInt8) (e : Ending) (w' : World) : Prop := ∃ (A : Option Addr) (c : Nat), e = .returned (.slice A bs.length c) ∧ w'.ownsRow u.heap.size 5 1 (.slice A bs.length c) bs.length (B8 bs) ∧ Fr [] u w'

/-- append(b, x) for a row of our own. -/
theorem app_byte (u w : World) (hU : Fr [] u w) (A : Option Addr) (n c : Nat) (bs : List UInt8) (hl : bs.length = n) (hown : w.ownsRow u.heap.size 5 1 (.slice A n c) n (B8 bs)) (hn : n ≤ 1000) (x : UInt8) (z : Int) (hz : z = (x.toNat : Int)) :
    ∃ A' c' w', (Builtin.append_ #[27, 27] 27 #[.slice A n c, .slice (some ⟨w.heap.size, 0, none⟩) 1 1]).run Try.prog (w.alloc (.cells #[.int .u8 z] 5)) = .ok (.slice A' (n + 1) c') w' ∧
      w'.ownsRow u.heap.size 5 1 (.slice A' (n + 1) c') (n + 1) (B8 (bs ++ [x])) ∧ Fr [] u w' ∧ Fr (Value.slice A n c).ownBlock.toList w w' ∧ (∀ g, (Value.slice A' (n + 1) c').ownBlock = some g → (Value.slice A n c).ownBlock = some g ∨ w.heap.size < g) := by
  subst hz
  have hsz := hU.size
  obtain ⟨v', w', hr, ho, hg, hat⟩ := app_run el8 (w.alloc (.cells #[.int .u8 x.toNat] 5)) u.heap.size 27 (.slice A n c) n (B8 bs) (hown.alloc _)
    (some ⟨w.heap.size, 0, none⟩) 1 1 (B8 [x]) rfl (rd_new w [x] 5) (B8_one _) (by simp) (by simp only [maxLen]; omega) (by omega) (by simp; omega)
  have ho2 : w'.ownsRow u.heap.size 5 1 v' (n + 1) (B8 (bs ++ [x])) := by rw [B8_append]; exact ho
  obtain ⟨A', c', rfl, _, _, _⟩ := own_slice ho2
  have hF1 : Fr (Value.slice A n c).ownBlock.toList w w' := ((Fr.refl [] w).alloc _).nil.trans (fr_grown hg)
  exact ⟨A', c', w', hr, ho2, hU.trans2 hF1 (fun t ht => .inr (hown.lt t (by simpa using ht)).1), hF1, fun g hg' => by
    rcases hat with h | h
    · exact .inl (by rw [← h]; exact hg')
    · rw [h, World.size_alloc] at hg'; injection hg' with hg'; omega⟩

set_option maxHeartbeats 1000000 in
theorem appendTo_nop (u w : World) (hU : Fr [] u w) (k : Nat) (oA : Option Addr) (on oc : Nat) (A : Option Addr) (n c : Nat) (bs : List UInt8) (hl : bs.length = n) (hown : w.ownsRow u.heap.size 5 1 (.slice A n c) n (B8 bs)) (hn : n ≤ 1000) (hk : k = 1) :
    Calls Try.prog 23 #[OV k oA on oc, .slice A n c] w (AppP u (bs ++ [1])) := by
  have hB : ∀ g, (Value.slice A n c).ownBlock = some g → g < w.heap.size := fun g hg => (hown.lt g hg).2
  obtain ⟨A', c', w', hr, ho, hF, hF1, _⟩ := app_byte u (w.alloc (.cells #[.int .u8 k, .slice oA on oc] 35)) (hU.alloc _) A n c bs hl (hown.alloc _) hn 1 (k : Int) (by rw [hk]; rfl)
  have hb : w'.heap[w.heap.size]? = some (.cells #[.int .u8 k, .slice oA on oc] 35 (0, 0)) := hF1.blk (heap_alloc_new w _) (by
    simp; intro h; exact absurd (hB _ h) (by omega))
  have q0 : w'.cell? ⟨w.heap.size, 0, none⟩ = some (.int .u8 k) := by simp [World.cell?, hb]
  have hs : bs.length + 1 = (bs ++ [(1 : UInt8)]).length := by simp
  have HO := Lib.hid ho
  have HF := Lib.hid hF
  have HS := Lib.hid hs
  have HL := Lib.hid hl
  have HK := Lib.hid hk
  have ek : ((k : Int) == 1) = true := by rw [hk]; rfl
  rw [World.size_alloc] at hr
  clear hk hl ho hF hF1 hown hB hb hU hs
  unfold OV
  go_enter Try.func23, Try.ntmps23
  go_wp2_with (at_builtin; refine wpList_app rfl _ _ _ rfl hr rfl rfl ?_)
  go_ret
  refine ⟨A', c', ?_, ?_, HF.out⟩
  · rw [← HS.out, HL.out]; rfl
  · rw [← HS.out, HL.out]; exact HO.out
theorem ofNat_toNat {k : Nat} (h : k < 256) : ((UInt8.ofNat k).toNat : Int) = (k : Int) := by
  rw [UInt8.toNat_ofNat']; omega
set_option maxHeartbeats 1000000 in
theorem appendTo_opt (u w : World) (hU : Fr [] u w) (k : Nat) (oA : Option Addr) (on oc : Nat) (d : List UInt8) (hod : d.length = on) (hrd : Rd u oA (B8 d)) (hnil : oA = none → oc = 0) (hk8 : k < 256) (h253 : on ≤ 253) (A : Option Addr) (n c : Nat) (bs : List UInt8) (hl : bs.length = n) (hown : w.ownsRow u.heap.size 5 1 (.slice A n c) n (B8 bs)) (hn : n ≤ 900) (hk : k ≠ 1) :
    Calls Try.prog 23 #[OV k oA on oc, .slice A n c] w (AppP u (bs ++ UInt8.ofNat k :: UInt8.ofNat (2 + on) :: d)) := by
  have hB : ∀ g, (Value.slice A n c).ownBlock = some g → g < w.heap.size := fun g hg => (hown.lt g hg).2
  obtain ⟨A1, c1, w1, hr1, ho1, hF1, hG1, hat1⟩ := app_byte u (w.alloc (.cells #[.int .u8 k, .slice oA on oc] 35)) (hU.alloc _) A n c bs hl (hown.alloc _) (by omega) (UInt8.ofNat k) (k : Int) (ofNat_toNat hk8).symm
  have hb1 : w1.heap[w.heap.size]? = some (.cells #[.int .u8 k, .slice oA on oc] 35 (0, 0)) := hG1.blk (heap_alloc_new w _) (by
    simp; intro h; exact absurd (hB _ h) (by omega))
  have q0 : w1.cell? ⟨w.heap.size, 0, none⟩ = some (.int .u8 k) := by simp [World.cell?, hb1]
  have q1 : w1.cell? ⟨w.heap.size, 0 + 1, none⟩ = some (.slice oA on oc) := by simp [World.cell?, hb1]
  have hw2 : IntKind.i64.wrap (2 + (on : Int)) = 2 + (on : Int) := IntWalk.i64_in _ (by omega)
  have hw8 : IntKind.u8.wrap (2 + (on : Int)) = 2 + (on : Int) := by rw [IntKind.wrap_u8]; omega
  have hz2 : 2 + (on : Int) = ((UInt8.ofNat (2 + on)).toNat : Int) := by rw [ofNat_toNat (by omega)]; omega
  obtain ⟨A2, c2, w2, hr2, ho2, hF2, hG2, hat2⟩ := app_byte u w1 hF1 A1 (n + 1) c1 _ (by simp [hl]) ho1 (by omega) (UInt8.ofNat (2 + on)) _ hz2
  have hne1 : (Value.slice A1 (n + 1) c1).ownBlock ≠ some w.heap.size := fun h => by
    rcases hat1 _ h with h | h
    · exact absurd (hB _ h) (by omega)
    · rw [World.size_alloc] at h; omega
  have hb2 : w2.heap[w.heap.size]? = some (.cells #[.int .u8 k, .slice oA on oc] 35 (0, 0)) := hG2.blk hb1 (by simpa using hne1)
  have p1 : w2.cell? ⟨w.heap.size, 0 + 1, none⟩ = some (.slice oA on oc) := by simp [World.cell?, hb2]
  have hs2 := hF2.size
  obtain ⟨v3, w3, hr3, ho3, hg3, _⟩ := app_run el8 w2 u.heap.size 27 (.slice A2 (n + 1 + 1) c2) (n + 1 + 1) _ ho2 oA on oc (B8 d) (by rw [B8_length]; omega) (hrd.fr hF2 (by simp)) (B8_one _) hnil (by simp only [maxLen]; omega) (by omega) hs2
  have hF3 : Fr [] u w3 := hF2.trans2 (fr_grown hg3) (fun t ht => .inr (ho2.lt t (by simpa using ht)).1)
  have e3 : n + 1 + 1 + on = (bs ++ UInt8.ofNat k :: UInt8.ofNat (2 + on) :: d).length := by simp; omega
  have ho3' : w3.ownsRow u.heap.size 5 1 v3 (n + 1 + 1 + on) (B8 (bs ++ UInt8.ofNat k :: UInt8.ofNat (2 + on) :: d)) := by
    have : bs ++ UInt8.ofNat k :: UInt8.ofNat (2 + on) :: d = (bs ++ [UInt8.ofNat k] ++ [UInt8.ofNat (2 + on)]) ++ d := by simp
    rw [this, B8_append]; exact ho3
  rw [e3] at ho3'
  obtain ⟨A3, c3, rfl, _, _, _⟩ := own_slice ho3'
  rw [World.size_alloc] at hr1
  have ek : ((k : Int) == 1) = false := by rw [beq_eq_false_iff_ne]; omega
  have H := Lib.hid (show AppP u (bs ++ UInt8.ofNat k :: UInt8.ofNat (2 + on) :: d) (.returned (.slice A3 (bs ++ UInt8.ofNat k :: UInt8.ofNat (2 + on) :: d).length c3)) w3 from ⟨A3, c3, rfl, ho3', hF3⟩)
  generalize (bs ++ UInt8.ofNat k :: UInt8.ofNat (2 + on) :: d).length = L at hr3 H
  generalize bs ++ UInt8.ofNat k :: UInt8.ofNat (2 + on) :: d = R at H ⊢
  clear hk hl ho1 hF1 hG1 hB hb1 hU ho2 hF2 hG2 hat1 hat2 hne1 hb2 ho3 ho3' hF3 hg3 e3 hown hrd hod hs2 hz2
  unfold OV
  go_enter Try.func23, Try.ntmps23
  go_wp2_with (at_builtin; first | (refine wpList_app rfl _ _ _ rfl hr1 rfl rfl ?_; clear hr1) | (refine wpList_app rfl _ _ _ rfl hr2 rfl rfl ?_; clear hr2) | (refine wpList_app rfl _ _ _ rfl hr3 rfl rfl ?_; clear hr3))
  go_ret
  exact H.out
theorem appendTo_any (u w : World) (hU : Fr [] u w) (o : Opt) (ho : OptOk u o) (h253 : o.n ≤ 253) (A : Option Addr) (n c : Nat) (bs : List UInt8) (hl : bs.length = n) (hown : w.ownsRow u.heap.size 5 1 (.slice A n c) n (B8 bs)) (hn : n ≤ 900) :
    Calls Try.prog 23 #[OV o.k o.A o.n o.c, .slice A n c] w (AppP u (bs ++ optB o)) := by
  unfold optB
  split
  · exact appendTo_nop u w hU o.k o.A o.n o.c A n c bs hl hown (by omega) (by assumption)
  · exact appendTo_opt u w hU o.k o.A o.n o.c o.d ho.len ho.rd ho.nil ho.k h253 A n c bs hl hown hn (by assumption)

/-- All bytes of options; with noughts up to a multiple of four. -/
def flatO (l : List Opt) : List UInt8 := l.flatMap optB
def padN (n : Nat) : Nat := (4 - n % 4) % 4
def pad4 (bs : List UInt8) : List UInt8 := bs ++ List.replicate (padN bs.length) 0
theorem pad4_none {bs : List UInt8} (h : bs.length % 4 = 0) : pad4 bs = bs := by unfold pad4 padN; rw [h]; simp
theorem pad4_step {bs : List UInt8} (h : bs.length % 4 ≠ 0) : pad4 (bs ++ [0]) = pad4 bs := by
  unfold pad4 padN
  obtain ⟨j, hj⟩ : ∃ j, (4 - bs.length % 4) % 4 = j + 1 := ⟨(4 - bs.length % 4) % 4 - 1, by omega⟩
  have h2 : (4 - (bs ++ [(0 : UInt8)]).length % 4) % 4 = j := by simp; omega
  rw [h2, hj, List.append_assoc]
  rfl
theorem flatO_step {l : List Opt} {k : Nat} {o : Opt} (h : l[k]? = some o) : flatO (l.take (k + 1)) = flatO (l.take k) ++ optB o := by
  obtain ⟨hk, e⟩ := List.getElem?_eq_some_iff.1 h
  unfold flatO
  rw [List.take_succ_eq_append_getElem hk, e, List.flatMap_append]
  simp
theorem flatO_le (l : List Opt) (k : Nat) : (flatO (l.take k)).length ≤ (flatO l).length := by
  have h : flatO l = flatO (l.take k) ++ flatO (l.drop k) := by
    unfold flatO; rw [← List.flatMap_append, List.take_append_drop]
  rw [h, List.length_append]; omega
theorem optB_le (o : Opt) (h : o.d.length ≤ 38) : (optB o).length ≤ 40 := by unfold optB; split <;> simp <;> omega
theorem right_len {o : Opt} (h : badO o = false) : o.d.length ≤ 38 := by
  unfold badO rightO at h
  simp at h
  exact h.1
theorem flt_bad {l : List Opt} (h : fltN l = 0) : ∀ o ∈ l, badO o = false := by
  unfold fltN at h
  split at h
  · cases h
  · rename_i hb
    intro o ho
    have := (List.any_eq_false.1 (by simpa using hb)) o ho
    simpa using this
/-- Write. -/
def WrtP (l : List Opt) (w : World) (e : Ending) (w' : World) : Prop :=
  Fr [] w w' ∧ ((fltN l ≠ 0 ∧ e = .returned (.tuple #[.slice none 0 0, .int .i64 (fltN l : Nat)])) ∨ (fltN l = 0 ∧ 40 < (flatO l).length ∧ e = .returned (.tuple #[.slice none 0 0, .int .i64 3])) ∨
    (fltN l = 0 ∧ (flatO l).length ≤ 40 ∧ ∃ (A : Option Addr) (c : Nat), e = .returned (.tuple #[.slice A (pad4 (flatO l)).length c, .int .i64 0]) ∧ w'.ownsRow w.heap.size 5 1 (.slice A (pad4 (flatO l)).length c) (pad4 (flatO l)).length (B8 (pad4 (flatO l)))))
set_option maxHeartbeats 1000000 in
theorem write_bad (A : Option Addr) (n c : Nat) (l : List Opt) (w : World) (hl : l.length = n) (hrd : RdO w A l) (hn : n ≤ 140737488351232) (h0 : fltN l ≠ 0) :
    Calls Try.prog 11 #[.slice A n c] w (WrtP l w) := by
  have cF := fault6_any A n c l w hl hrd hn
  have H0 := Lib.hid h0
  have HW := Lib.hid (show ∀ w', Fr [] w w' → WrtP l w (.returned (.tuple #[.slice none 0 0, .int .i64 (fltN l : Nat)])) w' from fun w' h => ⟨h, .inl ⟨h0, rfl⟩⟩)
  have hi : (((fltN l : Nat) : Int) != 0) = true := by rw [bne_iff_ne]; omega
  generalize WrtP l w = Q at HW ⊢
  generalize fltN l = z at cF H0 HW hi
  have CF := Lib.hid cF
  clear cF hl hrd h0
  go_enter Try.func11, Try.ntmps11
  go_wp2_with fail
  refine CF.out.mono ?_
  rintro e w1 ⟨rfl, hF1⟩
  go_wp2_with fail
  exact HW.out _ hF1
/-- The first loop's row. -/
structure WrL (w wr : World) (A : Option Addr) (c : Nat) (bs : List UInt8) : Prop where
  own : wr.ownsRow w.heap.size 5 1 (.slice A bs.length c) bs.length (B8 bs)
  fr : Fr [] w wr
set_option maxHeartbeats 2000000 in
theorem write_ok (A : Option Addr) (n c : Nat) (l : List Opt) (w : World) (hl : l.length = n) (hrd : RdO w A l) (hn : n ≤ 140737488351232) (h0 : fltN l = 0) :
    Calls Try.prog 11 #[.slice A n c] w (WrtP l w) := by
  have cF := fault6_any A n c l w hl hrd hn
  rw [h0] at cF
  have HY := Lib.hid (show ∀ w' A c, WrL w w' A c (pad4 (flatO l)) → (flatO l).length ≤ 40 → WrtP l w (.returned (.tuple #[.slice A (pad4 (flatO l)).length c, .int .i64 0])) w' from fun w' A c h h2 => ⟨h.fr, .inr (.inr ⟨h0, h2, A, c, rfl, h.own⟩)⟩)
  have HN := Lib.hid (show ∀ w', Fr [] w w' → 40 < (flatO l).length → WrtP l w (.returned (.tuple #[.slice none 0 0, .int .i64 3])) w' from fun w' h h2 => ⟨h, .inr (.inl ⟨h0, h2, rfl⟩)⟩)
  have HB := Lib.hid (flt_bad h0)
  generalize WrtP l w = Q at HY HN ⊢
  have CF := Lib.hid cF
  have HL := Lib.hid hl
  have HR := Lib.hid hrd
  clear cF hl hrd h0
  go_enter Try.func11, Try.ntmps11
  go_wp2_with fail
  refine CF.out.mono ?_
  rintro e w1 ⟨rfl, hF1⟩
  go_wp2_with fail
  go_loopw [15, 5] (fun i b wr => ∃ (k : Nat) (B : Option Addr) (cb : Nat), k ≤ n ∧ i = .int .i64 k ∧ b = .slice B (flatO (l.take k)).length cb ∧ (flatO (l.take k)).length ≤ 40 ∧ WrL w wr B cb (flatO (l.take k))) (fun i _ _ => n - (intOf i).toNat)
  case atStart => exact ⟨0, none, 0, Nat.zero_le _, rfl, rfl, Nat.zero_le _, ⟨World.ownsRow_nil _ _ _ _, hF1⟩⟩
  case round =>
    obtain ⟨k, B, cb, hk, rfl, rfl, h40, hW⟩ := hrel
    by_cases hlt : k < n
    · obtain ⟨o, ho⟩ : ∃ o, l[k]? = some o := ⟨_, List.getElem?_eq_getElem (by rw [HL.out]; exact hlt)⟩
      have h3 : OptOk w o := by
        obtain ⟨_, _, _, _, _, h⟩ := HR.out k o ho
        exact h
      obtain ⟨b, off, rfl, h1, h2, _⟩ := (HR.out.fr hW.fr) k o ho
      have hlti : (k : Int) < (n : Int) := by omega
      have hr := right_len (HB.out o (List.mem_of_getElem? ho))
      have hon := h3.len
      have cA := appendTo_any w (wr.alloc (.cells #[.int .u8 o.k, .slice o.A o.n o.c] 35)) (hW.fr.alloc _) o h3 (by omega) B _ cb _ rfl (hW.own.alloc _) (by omega)
      have hst := flatO_step ho
      rw [← hst] at cA
      have hle := flatO_le l (k + 1)
      have hbd : (flatO (l.take (k + 1))).length ≤ 80 := by rw [hst, List.length_append]; have := optB_le o hr; omega
      have wk : IntKind.i64.wrap ((k : Int) + 1) = (k : Int) + 1 := IntWalk.i64_in _ (by omega)
      have wk2 : ((k : Int) + 1) = ((k + 1 : Nat) : Int) := by omega
      have WK := Lib.hid wk2
      generalize (flatO (l.take k)) = bs at cA h40 hst ⊢
      have CA := Lib.hid cA
      clear cA ho hr h3 hW hst wk2
      unfold OV at CA
      go_wp2_with fail
      refine CA.out.mono ?_
      rintro e w5 ⟨A', c', rfl, hown, hF5⟩
      have HO := Lib.hid (show WrL w w5 A' c' (flatO (l.take (k + 1))) from ⟨hown, hF5⟩)
      clear hown CA h1 h2
      by_cases hlong : (flatO (l.take (k + 1))).length ≤ 40
      · have hgt : ¬ (40 < ((flatO (l.take (k + 1))).length : Int)) := by omega
        go_wp2_with fail
        exact ⟨⟨k + 1, A', c', by omega, by rw [WK.out], rfl, hlong, HO.out⟩, by simp [intOf]; omega⟩
      · have hgt : (40 < ((flatO (l.take (k + 1))).length : Int)) := by omega
        go_wp2_with fail
        exact HN.out _ hF5 (by omega)
    · obtain rfl : k = n := by omega
      have hlti : ¬ (k : Int) < (k : Int) := by omega
      rw [← HL.out, List.take_length] at h40 hW
      have htk : l.take k = l := by rw [← HL.out]; exact List.take_length
      rw [htk]
      generalize flatO l = bs at h40 hW HY ⊢
      have HW := Lib.hid hW
      clear hW HN HB HR CF
      go_wp2_with fail
      go_loopw [5] (fun b wr => ∃ (B : Option Addr) (cb : Nat) (cs : List UInt8), b = .slice B cs.length cb ∧ cs.length ≤ 40 ∧ pad4 cs = pad4 bs ∧ WrL w wr B cb cs) (fun b _ => match b with | .slice _ m _ => 40 - m | _ => 0)
      case atStart => exact ⟨B, cb, bs, rfl, h40, rfl, HW.out⟩
      case round =>
        obtain ⟨B1, cb1, cs, rfl, hc40, hpd, hW1⟩ := hrel
        by_cases hm : cs.length % 4 = 0
        · have d0 : (((cs.length : Int) % 4) != 0) = false := by rw [bne_eq_false_iff_eq]; omega
          have hcs := pad4_none hm
          have e : cs = pad4 bs := by rw [← hcs]; exact hpd
          subst e
          have HY3 := Lib.hid (HY.out _ B1 cb1 hW1 h40)
          clear hW1 hpd hcs HY
          go_wp2_with fail
          exact HY3.out
        · have d0 : (((cs.length : Int) % 4) != 0) = true := by rw [bne_iff_ne]; omega
          obtain ⟨A', c', w', hr, ho, hF, _, _⟩ := app_byte w wr hW1.fr B1 cs.length cb1 cs rfl hW1.own (by omega) 0 0 rfl
          have hst := pad4_step hm
          have e1 : cs.length + 1 = (cs ++ [(0 : UInt8)]).length := by simp
          have HO := Lib.hid (show WrL w w' A' c' (cs ++ [0]) from ⟨by rw [← e1]; exact ho, hF⟩)
          have E1 := Lib.hid e1
          have HST := Lib.hid hst
          have HPD := Lib.hid hpd
          clear hW1 ho hF HY e1 hst hpd
          go_wp2_with (at_builtin; refine wpList_app rfl _ _ _ rfl hr rfl rfl ?_)
          go_roundw
          case rel => exact ⟨A', c', cs ++ [0], by rw [← E1.out], by rw [← E1.out]; omega, by rw [HST.out]; exact HPD.out, HO.out⟩
          case measure => simp; omega
theorem write_any (A : Option Addr) (n c : Nat) (l : List Opt) (w : World) (hl : l.length = n) (hrd : RdO w A l) (hn : n ≤ 140737488351232) :
    Calls Try.prog 11 #[.slice A n c] w (WrtP l w) := by
  by_cases h0 : fltN l = 0
  · exact write_ok A n c l w hl hrd hn h0
  · exact write_bad A n c l w hl hrd hn h0
end Go.Proofs.Ytekhjpiopbkoaaa
