/- A region that draws its order, in a round of a range over a function: as outside, when no operation of it is a defer. -/
import Derived.Test.YtekhjpiopbkoaaaOck
import Derived.OrdersIn
import Derived.BigRegionIn
import Derived.OrdersHeld
import Derived.Deep.RegionHeld
namespace Go.Proofs.Ytekhjpiopbkoaaa
set_option linter.unusedVariables false

def noDef (o : Oper) : Bool := match o.op with
  | .defer _ => false
  | _ => true

theorem noDef_spec {o : Oper} (h : noDef o = true) (c : Call) : o.op ≠ .defer c := by
  intro h'
  simp [noDef, h'] at h

theorem oper_plain {F : Fence} {n : Nat} {P : Program} {o : Oper} {a : Act} {w : World} {K : Act → World → Prop} {Q : Exit → Act → World → Prop} (h : noDef o = true) :
    o.wpIn F n P a w K Q ↔ o.wpIn F.plain n P a w K Q := by
  unfold Oper.wpIn
  rw [Oper.semAt_eq F.round _ _ (noDef_spec h), Oper.semAt_eq F.plain.round _ _ (noDef_spec h)]
  exact Iff.rfl

theorem op_plain {F : Fence} {n : Nat} {P : Program} {ops : Array Oper} {Q : Exit → Act → World → Prop} {i : Nat} {K : Act → World → Prop} {a : Act} {w : World}
    (hd : ops.all noDef = true) : wpOpIn F n P ops Q i K a w ↔ wpOpIn F.plain n P ops Q i K a w := by
  unfold wpOpIn
  cases ho : ops[i]? with
  | none => exact Iff.rfl
  | some o =>
    have hn : noDef o = true := by
      obtain ⟨hi, rfl⟩ := Array.getElem?_eq_some_iff.1 ho
      exact Array.all_eq_true.1 hd i hi
    dsimp only
    split
    · exact oper_plain hn
    · exact Iff.rfl

theorem any_plain {F : Fence} {n : Nat} {P : Program} {md : Region.Mode} {ops : Array Oper} {Q : Exit → Act → World → Prop} (hd : ops.all noDef = true) :
    ∀ (fuel : Nat) (listed : Array Bool) (a : Act) (w : World), wpAnyIn F.plain n P md ops Q fuel listed a w → wpAnyIn F n P md ops Q fuel listed a w
  | 0, _, _, _, h => h
  | fuel + 1, listed, a, w, h => ⟨h.1, fun i hi => (op_plain hd).2 (wpOpIn_mono (fun a' w' h' => any_plain hd fuel _ a' w' h') (h.2 i hi))⟩

/-- A drawn region in a round. -/
theorem region_round {F : Fence} {n : Nat} {P : Program} {ops : Array Oper} {Q : Exit → Act → World → Prop} {id : Nat} {a : Act} {w : World} (hm : P.follows .mixedOrders = true)
    (hd : ops.all noDef = true)
    (h : wpAnyIn F.plain n P .any ops Q ops.size (Array.replicate ops.size false) a { w with drawn := w.drawn + 1 }) : (Code.region id ops true).wpIn F n P Q a w :=
  wpIn_region_any hm (any_plain hd _ _ _ _ h)

/-- What an operation does where nothing grows out, told in the wide fence. -/
theorem oper_wide {n : Nat} {P : Program} {o : Oper} {a : Act} {w : World} {K : Act → World → Prop} {Q : Exit → Act → World → Prop} (h : o.wp P a w K Q) :
    o.wpIn Fence.wide n P a w K Q := by
  refine ⟨fun _ _ => trivial, ?_⟩
  rw [show Fence.wide.round = none from rfl, Oper.semAt_none]
  unfold Oper.wp at h
  generalize (execOp a.eval o).run P w = r at *
  cases r with
  | ok x w' =>
    cases x <;> simp only [Oper.upon, Oper.uponIn] at h ⊢
    case value => exact h
    case skip => exact h
    case defer => exact h
    case enter => exact ⟨fun hd => by simp [Fence.wide] at hd, callsIn_wide.2 h⟩
    case row =>
      refine ⟨fun hd => by simp [Fence.wide] at hd, fun c cs _ => ?_⟩
      obtain ⟨v, w'', hv, hs⟩ := h c cs
      exact ⟨v, w'', hv, stepsIn_wide.2 hs⟩
  | halt x w' => cases x <;> simp only [Oper.upon, Oper.uponIn] at h ⊢ <;> exact h

theorem op_wide {n : Nat} {P : Program} {ops : Array Oper} {Q : Exit → Act → World → Prop} (hQ : ¬ LetsOut Q) {i : Nat} {K : Act → World → Prop} {a : Act} {w : World}
    (h : wpOp P ops Q i K a w) : wpOpIn Fence.wide n P ops Q i K a w := by
  unfold wpOp at h
  unfold wpOpIn
  cases ho : ops[i]? with
  | none => simp only [ho] at h; exact h
  | some o =>
    simp only [ho] at h ⊢
    split
    · rename_i hw
      simp only [hw, if_true] at h
      rcases h with h | ⟨_, h⟩
      · exact oper_wide h
      · exact absurd h hQ
    · rename_i hw
      simp only [hw] at h
      exact ⟨fun _ _ => trivial, h⟩

theorem any_wide {n : Nat} {P : Program} {md : Region.Mode} {ops : Array Oper} {Q : Exit → Act → World → Prop} (hQ : ¬ LetsOut Q) :
    ∀ (fuel : Nat) (listed : Array Bool) (a : Act) (w : World), wpAny P md ops Q fuel listed a w → wpAnyIn Fence.wide n P md ops Q fuel listed a w
  | 0, _, _, _, h => h
  | fuel + 1, listed, a, w, h => ⟨h.1, fun i hi => wpOpIn_mono (fun a' w' h' => any_wide hQ fuel _ a' w' h') (op_wide hQ (h.2 i hi))⟩

/-- A drawn region in a round, walked as outside of it, with what the worlds hold. -/
theorem region_round_held {F : Fence} {n : Nat} {P : Program} {ops : Array Oper} {Q : Exit → Act → World → Prop} {id : Nat} {a : Act} {w : World} (hF : F.plain = Fence.wide) (hm : P.follows .mixedOrders = true)
    (hd : ops.all noDef = true) (S : World → Prop) (R : Act → World → Prop) (hR : ∀ a w, R a w → Q .normal a w) (hS : S w.drew)
    (h : S w.drew → wpAnyH P .any ops (fun e a w => e = .normal ∧ R a w) S ops.size (Array.replicate ops.size false) a w.drew) : (Code.region id ops true).wpIn F n P Q a w := by
  refine wpIn_mono (Q := fun e a w => e = .normal ∧ R a w) (region_round hm hd ?_) (fun e a w he => ?_)
  · rw [hF]
    refine any_wide (fun h => ?_) _ _ _ _ (wpAny_of_held _ _ _ _ (h hS))
    obtain ⟨a, w, h, _⟩ := h
    cases h
  · obtain ⟨rfl, h⟩ := he
    exact hR a w h
end Go.Proofs.Ytekhjpiopbkoaaa
