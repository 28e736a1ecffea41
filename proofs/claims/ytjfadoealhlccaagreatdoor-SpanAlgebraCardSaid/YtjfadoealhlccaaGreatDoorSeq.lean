/- The iterator of strings.SplitSeq at one byte, whatever its body does with the parts. -/
import Derived.Test.YtjfadoealhlccaaGreatDoorRsp
import Derived.Test.YtjfadoealhlccaaGreatDoorCov
namespace Go.Proofs.YtjfadoealhlccaaGreatDoor
open Go.RowKit Go.Shelf
set_option linter.unusedVariables false
attribute [local go_sem] Oper.semAt_some

set_option maxRecDepth 100000 in
set_option maxHeartbeats 4000000 in
theorem split1_in (n l Bs Bp Bz : Nat) (hn : 1 ≤ n) (K : List UInt8 → World → Prop) (F : World → Prop)
    (hK : ∀ r W W', K r W → Fr [Bs] W W' → K r W')
    (hKc : ∀ r W, K r W → W.cell? ⟨Bp, 0, none⟩ = some (.string ⟨#[44]⟩) ∧ W.cell? ⟨Bz, 0, none⟩ = some (.int .i64 0) ∧ r.length ≤ 281474976710656)
    (hY : ∀ x y W, K (x ++ 44 :: y) W → (44 : UInt8) ∉ x → YieldAt Fence.wide (n - 1) Tryz.prog l #[.string ⟨x.toArray⟩] W fun e W' => W'.heap[Bs]? = W.heap[Bs]? ∧ ((e = .returned (.bool true) ∧ K y W') ∨ (e = .returned (.bool false) ∧ F W')))
    (hL : ∀ x W, K x W → (44 : UInt8) ∉ x → YieldAt Fence.wide (n - 1) Tryz.prog l #[.string ⟨x.toArray⟩] W fun e W' => (∃ b, e = .returned (.bool b)) ∧ F W')
    (W : World) (r0 : List UInt8) (hBs : W.cell? ⟨Bs, 0, none⟩ = some (.string ⟨r0.toArray⟩)) (hfz0 : W.frozen? ⟨Bs, 0, none⟩ = false) (h0 : K r0 W) :
    CallsIn Fence.wide n Tryz.prog 89 #[.func (.yield l) #[] #[], .pointer (some ⟨Bp, 0, none⟩), .pointer (some ⟨Bs, 0, none⟩), .pointer (some ⟨Bz, 0, none⟩)] W fun e W' => (∃ v, e = .returned v) ∧ F W' := by
  obtain ⟨k1, k2, k3⟩ := hKc _ _ h0
  refine callsIn_of_wp Tryz.func89 rfl trivial ?_ rfl
  simp only [Tryz.ntmps89, List.size_toArray, List.length_cons, List.length_nil, Nat.reduceAdd, Nat.reduceSub, Array.replicate_succ, Array.replicate_zero, List.push_toArray, List.append_toArray, List.nil_append, List.cons_append]
  gi_wp2
  gi_loopw [] (fun wr => ∃ r : List UInt8, K r wr ∧ wr.cell? ⟨Bs, 0, none⟩ = some (.string ⟨r.toArray⟩) ∧ wr.frozen? ⟨Bs, 0, none⟩ = false)
    (fun wr => match wr.cell? ⟨Bs, 0, none⟩ with | some (.string z) => z.size | _ => 0)
  case atStart => exact ⟨r0, h0, hBs, hfz0⟩
  case round =>
    clear k1 k2 k3 hBs hfz0 h0
    obtain ⟨r, hKr, hcf, hfz⟩ := hrel
    obtain ⟨k1, k2, k3⟩ := hKc _ _ hKr
    have hBl := World.block_lt_of_cell? wr _ hcf
    have HCF := Lib.hid hcf
    rcases idx_cases r 44 with ⟨h1, h2⟩ | ⟨x, y, h1, h2, h3⟩
    · have hI : Calls Tryz.prog 91 #[.string ⟨r.toArray⟩, .string ⟨#[44]⟩] wr fun e w' => e = .returned (.int .i64 (-1)) ∧ w' = wr := by rw [← h1]; exact index_any ⟨r.toArray⟩ 44 wr
      obtain ⟨fn, tmps, assign, body, hy, hR⟩ := hL r wr hKr h2
      clear hY hL hK hKc h1 h2 hKr
      gi_wp2_with (first
        | (refine ⟨trivial, ?_⟩; refine (callsIn_wide.2 hI).mono ?_; rintro e w1 ⟨rfl, rfl⟩)
        | (refine hR.mono ?_; rintro e W3 ⟨⟨b, rfl⟩, hF3⟩))
      go_end0
      exact ⟨⟨_, rfl⟩, hF3⟩
    · have hI : Calls Tryz.prog 91 #[.string ⟨r.toArray⟩, .string ⟨#[44]⟩] wr fun e w' => e = .returned (.int .i64 x.length) ∧ w' = wr := by rw [← h3]; exact index_any ⟨r.toArray⟩ 44 wr
      subst h1
      have hsz : x.length + (y.length + 1) ≤ 281474976710656 := by simpa using k3
      obtain ⟨fn, tmps, assign, body, hy, hR⟩ := hY x y wr hKr h2
      have hw : IntKind.i64.wrap ((x.length : Int) + 1) = (x.length : Int) + 1 := i64_of (by omega) (by omega)
      have c0 : (0 : Int) ≤ (x.length : Int) := by omega
      have c1 : (x.length : Int) ≤ ((x.length + (y.length + 1) : Nat) : Int) := by omega
      have c2 : (0 : Int) ≤ (x.length : Int) + 1 := by omega
      have c3 : (x.length : Int) + 1 ≤ ((x.length + (y.length + 1) : Nat) : Int) := by omega
      clear hY hL h2 h3 hKr
      gi_wp2_with (first
        | (refine ⟨trivial, ?_⟩; refine (callsIn_wide.2 hI).mono ?_; rintro e w1 ⟨rfl, rfl⟩))
      have d0 : decide ((x.length : Int) < 0) = false := decide_eq_false (by omega)
      rw [ext_to, hy]
      gi_wp2_with fail
      refine hR.mono ?_
      rintro e W3 ⟨hb, ⟨rfl, hK3⟩ | ⟨rfl, hF3⟩⟩
      · obtain ⟨q1, q2, q3⟩ := hKc _ _ hK3
        have hcf3 := (World.cell?_of_block hb).trans hcf
        have hfz3 := fz_block hb hfz
        clear hR hy hI hcf k1 k2 hfz
        gi_wp2
        rw [ext_from]
        have hc := World.cell?_setCell_same W3 ⟨Bs, 0, none⟩ (.string ⟨y.toArray⟩) hcf3
        refine ⟨⟨y, hK _ _ _ hK3 ((Fr.refl _ _).setCell (.inl (by simp)) _), hc, by simpa using hfz3⟩, ?_⟩
        rw [hc, HCF.out]
        show (⟨y.toArray⟩ : ByteArray).size < (⟨(x ++ 44 :: y).toArray⟩ : ByteArray).size
        rw [size_of, size_of]
        simp
        omega
      · clear hR hy hI hcf k1 k2 hfz hKc hK
        gi_wp2
        refine bodyPost_ret (results_none rfl _ _ _) rfl ?_
        exact ⟨⟨_, rfl⟩, hF3⟩
end Go.Proofs.YtjfadoealhlccaaGreatDoor
