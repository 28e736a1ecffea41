/- append, told with what becomes of the old block. No program's text is named here. -/
import Derived.Test.YtdkpmbefnfdbkaaApp
namespace Go.Proofs.Ytdkpmbefnfdbkaa
open Go.RowKit

/-- What append hands back: the same row, grown in place; or a new one, the old blocks being as they were. -/
def AppOut (w w' : World) (v v' : Value) (n m : Nat) : Prop :=
  (∃ g c, v = .slice (some ⟨g, 0, none⟩) n c ∧ v' = .slice (some ⟨g, 0, none⟩) (n + m) c ∧ Fr [g] w w') ∨ (∃ c, v' = .slice (some ⟨w.heap.size, 0, none⟩) (n + m) c ∧ Fr [] w w')

theorem app_two {P : Program} {t e : TypeId} {bytes : Nat} (E : El P t e 1 bytes) (w : World) (base : Nat) (ty : TypeId) (v : Value) (n : Nat) (xs : List Value) (hown : w.ownsRow base e 1 v n xs)
    (a : Addr) (m c : Nat) (news : List Value) (hl : news.length = m) (hrd : Rd w (some a) news) (h1 : ∀ u ∈ news, u.oneCell' = true) (hm : 0 < m)
    (h63 : n + m ≤ maxLen) (hbytes : (n + m) * bytes ≤ 140737488355328) (hbase : base ≤ w.heap.size) :
    ∃ v' w', (Builtin.append_ #[t, t] ty #[v, .slice (some a) m c]).run P w = .ok v' w' ∧ w'.ownsRow base e 1 v' (n + m) (xs ++ news) ∧ AppOut w w' v v' n m := by
  obtain ⟨i, z, hi, hz, hs, hb, hzs⟩ := E.hi
  have hl1 : news.length = m * i.size := by rw [hs]; omega
  have h64 : n + m ≤ 9223372036854775807 := by simp only [maxLen] at h63; omega
  obtain ⟨v', w', hr, h2, h3, _, h5⟩ := run_append_own_at (P := P) w base t ty e i z 1 bytes E.ht hi hz hs hb hzs E.hsz v n xs hown a m c news (by omega) (fun j u hu => hrd.get hu) h1 h63 hbytes hbase
  refine ⟨v', w', hr, h2, ?_⟩
  rcases hown.2 with ⟨rfl, rfl⟩ | ⟨g, cap, cur, rfl, hbg, hg, hnc, hcm, hcs, htake⟩
  · have hr2 := run_append_nil (P := P) w t ty e i z E.ht hi hz a m c news hl1 (fun j u hu => hrd.get hu) hm (by omega) (by rw [hb]; simp only [Nat.zero_add] at hbytes; omega)
    rw [hr] at hr2
    injection hr2 with e1 e2
    subst e1 e2
    exact .inr ⟨_, by rw [Nat.zero_add], (Fr.refl _ _).drew.alloc _⟩
  · by_cases hroom : n + m ≤ cap
    · have hr2 := run_append_room (P := P) w t ty e i E.ht hi g n cap cur hg a m c news hl1 (fun j u hu => hrd.get hu) h1 hroom (by rw [hs]; omega)
      rw [hr] at hr2
      injection hr2 with e1 e2
      subst e1 e2
      exact .inl ⟨g, cap, rfl, rfl, (Fr.refl _ _).setRow (.inl (by simp)) _⟩
    · have hr2 := run_append_grow (P := P) w t ty e i z E.ht hi hz ⟨g, 0, none⟩ n cap xs (by rw [hs]; exact hown.1) (hown.cells (g := g) rfl) a m c news hl1 (fun j u hu => hrd.get hu) (by omega) (by omega) (growslice_fits (by omega) (by rw [hb]; exact hbytes))
      rw [hr] at hr2
      injection hr2 with e1 e2
      subst e1 e2
      exact .inr ⟨_, rfl, (Fr.refl _ _).drew.alloc _⟩
end Go.Proofs.Ytdkpmbefnfdbkaa
