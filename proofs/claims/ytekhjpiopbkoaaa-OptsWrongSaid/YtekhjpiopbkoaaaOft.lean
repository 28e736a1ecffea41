/- IndexFunc and ContainsFunc with the second closure of fault; fault. -/
import Derived.Test.YtekhjpiopbkoaaaOls
import Derived.Great.BuildSlice
namespace Go.Proofs.Ytekhjpiopbkoaaa
open Go.RowKit
set_option linter.unusedVariables false
set_option maxRecDepth 100000

set_option maxHeartbeats 400000 in
theorem flt2_any (k : Nat) (A : Option Addr) (n c : Nat) (bf bm bx : Nat) (gs : List Nat) (w : World) (hE : Exc w bm bx gs) (hf : FunP w bf bx) :
    Calls Try.prog 36 #[OV k A n c, .pointer (some ⟨bf, 0, none⟩)] w (Flt2 w bm bx gs k) := by
  have hF : Fr [] w (w.alloc (.cells #[.int .u8 k, .slice A n c] 35)) := (Fr.refl _ _).alloc _
  have cX := exc_any k bm bx gs (w.alloc (.cells #[.int .u8 k, .slice A n c] 35)) (hE.fr hF (by simp) (by simp))
  have q0 := hF.cell hf.cell (by simp)
  have hlm := lt_of_block hE.m
  have CX := Lib.hid cX
  have HF := Lib.hid hF
  clear cX hE hf hF
  unfold OV
  go_enter Try.func36, Try.ntmps36
  go_wp2_with fail
  refine CX.out.mono ?_
  rintro e w' ⟨hF1, h⟩
  have hFF : Fr [bm] w w' := (HF.out.nil).trans2 hF1 (by simp)
  rcases h with ⟨h0, rfl, hE⟩ | ⟨h0, h1, rfl⟩ | ⟨h0, h1, rfl, hE⟩
  · have H := Lib.hid (show Flt2 w bm bx gs k (.returned (.bool false)) w' from ⟨hFF, .inl ⟨h0, rfl, hE⟩⟩)
    clear h0 hE hFF hF1 q0
    go_wp2
    go_ret
    exact H.out
  · have H := Lib.hid (show Flt2 w bm bx gs k (.returned (.bool true)) w' from ⟨hFF, .inr (.inl ⟨h0, h1, rfl⟩)⟩)
    clear h0 h1 hFF hF1 q0
    go_wp2
    go_ret
    exact H.out
  · have H := Lib.hid (show Flt2 w bm bx gs k (.returned (.bool false)) w' from ⟨hFF, .inr (.inr ⟨h0, h1, rfl, hE⟩)⟩)
    clear h0 h1 hE hFF hF1 q0
    go_wp2
    go_ret
    exact H.out

/-- Behind the loop: below nought just if no two exclude one another. -/
def Idx2 (w : World) (bm : Nat) (b : Bool) (e : Ending) (w' : World) : Prop := ∃ z : Int, e = .returned (.int .i64 z) ∧ decide (0 ≤ z) = b ∧ Fr [bm] w w'
theorem twB_step {gs : List Nat} {l : List Opt} {k : Nat} {o : Opt} (h : l[k]? = some o) : twB gs (l.drop k) = if grp o.k = 0 then twB gs (l.drop (k + 1)) else if grp o.k ∈ gs then true else twB (gs ++ [grp o.k]) (l.drop (k + 1)) := by
  have hlt := (List.getElem?_eq_some_iff.1 h).1
  rw [List.drop_eq_getElem_cons hlt, (List.getElem?_eq_some_iff.1 h).2]
  rfl
set_option maxHeartbeats 1000000 in
theorem index2 (A : Option Addr) (n c : Nat) (l : List Opt) (bf bm bx : Nat) (w : World) (hl : l.length = n) (hrd : RdO w A l) (hn : n ≤ 140737488351232) (hE : Exc w bm bx []) (hf : FunP w bf bx) :
    Calls Try.prog 31 #[.slice A n c, .func (.func 36) #[] #[.pointer (some ⟨bf, 0, none⟩)]] w (Idx2 w bm (twB [] l)) := by
  have HL := Lib.hid hl
  have hm0 := hE.m
  have HM := Lib.hid hm0
  have HR := Lib.hid hrd
  have HF0 := Lib.hid hf
  have HE0 := Lib.hid hE
  clear hl hm0 hrd hf hE
  go_enter Try.func31, Try.ntmps31
  go_wp2
  go_loopw [8] (fun i wr => ∃ (k : Nat) (gs : List Nat), k ≤ n ∧ i = .int .i64 k ∧ twB gs (l.drop k) = twB [] l ∧ Exc wr bm bx gs ∧ Fr [bm] w wr) (fun i _ => n - (intOf i).toNat)
  case atStart => exact ⟨0, [], Nat.zero_le _, rfl, rfl, HE0.out, Fr.refl _ _⟩
  case round =>
    obtain ⟨k, gs, hk, rfl, ht, hE, hF⟩ := hrel
    by_cases hlt : k < n
    · obtain ⟨o, ho⟩ : ∃ o, l[k]? = some o := ⟨_, List.getElem?_eq_getElem (by rw [HL.out]; exact hlt)⟩
      obtain ⟨b, off, rfl, h1, h2, h3⟩ := (HR.out.frm HM.out hF) k o ho
      have cF := flt2_any o.k o.A o.n o.c bf bm bx gs wr hE (HF0.out.frm HM.out hF)
      unfold OV at cF
      have hlti : (k : Int) < (n : Int) := by omega
      have wk : IntKind.i64.wrap ((k : Int) + 1) = (k : Int) + 1 := IntWalk.i64_in _ (by omega)
      have wk2 : ((k : Int) + 1) = ((k + 1 : Nat) : Int) := by omega
      have hts := twB_step (gs := gs) ho
      rw [ht] at hts
      have HTS := Lib.hid hts
      have HF := Lib.hid hF
      have WK := Lib.hid wk2
      have CF := Lib.hid cF
      clear cF ho ht hts hE hF h3 wk2
      go_wp2_with fail
      refine CF.out.mono ?_
      rintro e w5 ⟨hF5, h⟩
      have HF5 := Lib.hid (HF.out.trans hF5)
      clear hF5 h1 h2 CF
      rcases h with ⟨h0, rfl, hE⟩ | ⟨h0, h1, rfl⟩ | ⟨h0, h1, rfl, hE⟩
      · have hts := HTS.out
        rw [if_pos h0] at hts
        have H := Lib.hid hts
        have HE := Lib.hid hE
        clear hts h0 hE
        go_wp2_with fail
        exact ⟨⟨k + 1, gs, by omega, by rw [WK.out], H.out.symm, HE.out, HF5.out⟩, by simp [intOf]; omega⟩
      · have hts := HTS.out
        rw [if_neg h0, if_pos h1] at hts
        have H := Lib.hid hts
        clear hts h0 h1
        go_wp2_with fail
        go_ret
        exact ⟨(k : Int), rfl, by rw [H.out]; exact decide_eq_true (by omega), HF5.out⟩
      · have hts := HTS.out
        rw [if_neg h0, if_neg h1] at hts
        have H := Lib.hid hts
        have HE := Lib.hid hE
        clear hts h0 h1 hE
        go_wp2_with fail
        exact ⟨⟨k + 1, gs ++ [grp o.k], by omega, by rw [WK.out], H.out.symm, HE.out, HF5.out⟩, by simp [intOf]; omega⟩
    · have hlti : ¬ (k : Int) < (n : Int) := by omega
      rw [List.drop_of_length_le (by rw [HL.out]; omega)] at ht
      have H := Lib.hid ht
      have HF := Lib.hid hF
      clear ht hF hE
      go_wp2_with fail
      go_ret
      exact ⟨-1, rfl, by rw [← H.out]; rfl, HF.out⟩
set_option maxHeartbeats 400000 in
theorem contains2 (A : Option Addr) (n c : Nat) (l : List Opt) (bf bm bx : Nat) (w : World) (hl : l.length = n) (hrd : RdO w A l) (hn : n ≤ 140737488351232) (hE : Exc w bm bx []) (hf : FunP w bf bx) :
    Calls Try.prog 33 #[.slice A n c, .func (.func 36) #[] #[.pointer (some ⟨bf, 0, none⟩)]] w fun e w' => e = .returned (.bool (twB [] l)) ∧ Fr [bm] w w' := by
  have cI := index2 A n c l bf bm bx w hl hrd hn hE hf
  generalize twB [] l = b at cI ⊢
  have CI := Lib.hid cI
  clear cI hl hrd hE hf
  go_enter Try.func33, Try.ntmps33
  go_wp2_with fail
  refine CI.out.mono ?_
  rintro e w' ⟨z, rfl, hz, hF⟩
  go_wp2
  go_ret
  exact ⟨rfl, hF⟩

/-- fault. -/
def fltN (l : List Opt) : Nat := if l.any badO then 2 else if twB [] l then 63 else 0
set_option maxHeartbeats 1000000 in
theorem fault6_any (A : Option Addr) (n c : Nat) (l : List Opt) (w : World) (hl : l.length = n) (hrd : RdO w A l) (hn : n ≤ 140737488351232) :
    Calls Try.prog 22 #[.slice A n c] w fun e w' => e = .returned (.int .i64 (fltN l : Nat)) ∧ Fr [] w w' := by
  have c1 := contains1 A n c l w hl hrd hn
  unfold fltN
  cases h1 : l.any badO with
  | true =>
    rw [h1] at c1
    have C1 := Lib.hid c1
    clear c1 hl hrd h1
    rw [if_pos rfl]
    go_enter Try.func22, Try.ntmps22
    go_wp2_with fail
    refine C1.out.mono ?_
    rintro e w1 ⟨rfl, hF1⟩
    go_wp2
    go_ret
    exact ⟨rfl, hF1⟩
  | false =>
    rw [h1] at c1
    have c2 := fun bf bm bx W (hW : Fr [] w W) => contains2 A n c l bf bm bx W hl (hrd.fr hW) hn
    rw [if_neg (by simp)]
    generalize twB [] l = b at c2 ⊢
    have C1 := Lib.hid c1
    have C2 := Lib.hid c2
    clear c1 c2 hl hrd h1
    go_enter Try.func22, Try.ntmps22
    go_wp2_with fail
    refine C1.out.mono ?_
    rintro e w1 ⟨rfl, hF1⟩
    go_wp2_with fail
    refine (excluder_any w1).mono ?_
    rintro e w2 ⟨rfl, hE, hF2⟩
    have hn0 : (w2.alloc (.cells #[.nilFunc] 62)).heap[w2.heap.size]? = some (.cells #[.nilFunc] 62 (0, 0)) := heap_alloc_new w2 _
    have hF3 : Fr [] w2 ((w2.alloc (.cells #[.nilFunc] 62)).setRow w2.heap.size #[.func (.func 37) #[] #[.pointer (some ⟨w1.heap.size + 1, 0, none⟩)]]) := ((Fr.refl [] w2).alloc _).setRow (.inr (Nat.le_refl _)) _
    have hfn : FunP ((w2.alloc (.cells #[.nilFunc] 62)).setRow w2.heap.size #[.func (.func 37) #[] #[.pointer (some ⟨w1.heap.size + 1, 0, none⟩)]]) w2.heap.size (w1.heap.size + 1) := setRow_heap _ _ _ _ _ _ hn0
    have HN0 := Lib.hid hn0
    have hE3 := hE.fr hF3 (by simp) (by simp)
    have hFw := hF1.trans (hF2.trans hF3)
    have hlm := hF1.size
    have HE3 := Lib.hid hE3
    have HFN := Lib.hid hfn
    have HFW := Lib.hid hFw
    clear hE hF3 hfn hE3 hFw hF1 hF2 C1 hn0
    go_wp2_with (refine wpList_store_one rfl 62 _ _ rfl (w2.heap.size) rfl rfl _ _ HN0.out (by kernel_rfl) ?_)
    refine (C2.out _ _ _ _ HFW.out HE3.out HFN.out).mono ?_
    rintro e w4 ⟨rfl, hF4⟩
    have HF4 := Lib.hid (HFW.out.trans2 hF4 (by simp; omega))
    clear hF4 C2 HE3 HFN HFW
    cases b with
    | true =>
      go_wp2_with fail
      go_ret
      exact ⟨rfl, HF4.out⟩
    | false =>
      go_wp2_with fail
      go_ret
      exact ⟨rfl, HF4.out⟩
end Go.Proofs.Ytekhjpiopbkoaaa
