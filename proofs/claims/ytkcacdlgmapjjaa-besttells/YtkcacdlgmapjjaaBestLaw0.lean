/-
  What the laws of package best lean on: routes of an argument, and where their lists lie; a route's list tells it apart; sorted lists of routes are one.
-/
import Derived.Test.YtkcacdlgmapjjaaBettered
import Derived.Test.YtkcacdlgmapjjaaBestSort
import Derived.Test.YtkcacdlgmapjjaaLongRoutes
import Derived.Test.YtkcacdlgmapjjaaOwnRoutes
import Derived.Test.YtkcacdlgmapjjaaWireSame
namespace Go.Proofs.Ytkcacdlgmapjjaa
open Go.RowKit

theorem rvs_of {w : World} {p : Option Addr} {L : List Ro} (h : Routes w p L) : ∃ X : List RV, X.map (·.r) = L ∧ RvRow w p X ∧ ∀ x ∈ X, RvIn w x := by
  have each : ∀ i, ∃ x : RV, ∀ hi : i < L.length, x.r = L[i] ∧ (∃ b o, p = some ⟨b, o, none⟩ ∧ RvCell w b (o + i * 8) x) ∧ RvIn w x := fun i => by
    by_cases hi : i < L.length
    · obtain ⟨b, o, e, p1, c1, q1, d1, a0, a1, a2, a3, a4, a5, a6, a7, i1, i2⟩ := h i hi
      refine ⟨⟨L[i], p1, c1, q1, d1⟩, fun _ => ⟨rfl, ⟨b, o, e, fun k v hk => ?_⟩, i1, i2⟩⟩
      have hk8 : k < 8 := (List.getElem?_eq_some_iff.1 hk).1
      rcases k with _ | _ | _ | _ | _ | _ | _ | _ | k <;> first | (simp only [enc8, List.getElem?_cons_zero, List.getElem?_cons_succ, Option.some.injEq] at hk; subst hk; assumption) | omega
    · exact ⟨rv0, fun h' => absurd h' hi⟩
  have hf := fun i => Classical.choose_spec (each i)
  generalize (fun i => Classical.choose (each i)) = f at hf
  refine ⟨(List.range L.length).map fun i => Classical.choose (each i), ?_, fun i hi => ?_, fun x hx => ?_⟩
  · apply List.ext_getElem (by simp)
    intro i h1 h2
    simp only [List.map_map, List.getElem_map, List.getElem_range, Function.comp_apply]
    exact (Classical.choose_spec (each i) h2).1
  · have hi' : i < L.length := by simpa using hi
    obtain ⟨b, o, e, hc⟩ := (Classical.choose_spec (each i) hi').2.1
    refine ⟨b, o, e, ?_⟩
    simpa using hc
  · obtain ⟨i, hi, rfl⟩ := List.mem_map.1 hx
    exact (Classical.choose_spec (each i) (List.mem_range.1 hi)).2.2
theorem routes_of {w : World} {p : Option Addr} {X : List RV} (h : RvRow w p X) (hr : ∀ x ∈ X, RvIn w x) : Routes w p (X.map (·.r)) := fun i hi => by
  have hi' : i < X.length := by simpa using hi
  obtain ⟨b, o, e, hc⟩ := h i hi'
  obtain ⟨a0, a1, a2, a3, a4, a5, a6, a7⟩ := rvCell8 hc
  have hm := hr X[i] (List.getElem_mem hi')
  refine ⟨b, o, e, ?_⟩
  rw [List.getElem_map]
  exact ⟨X[i].p, X[i].cp, X[i].q, X[i].cq, a0, a1, a2, a3, a4, a5, a6, a7, hm.1, hm.2⟩
theorem keyR_inj (a b : Ro) (h : keyR a = keyR b) : a = b := by
  obtain ⟨⟨ta, tn⟩, ⟨P, f, m, o, T⟩, u⟩ := a
  obtain ⟨⟨ta', tn'⟩, ⟨P', f', m', o', T'⟩, u'⟩ := b
  simp only [keyR, List.cons.injEq] at h
  obtain ⟨h1, h2, h3, h4, h5, h6⟩ := h
  have hl : P.length = P'.length := by omega
  obtain ⟨h7, h8⟩ := List.append_inj h6 hl
  simp only [List.cons.injEq] at h8
  obtain ⟨h8, h9, h10⟩ := h8
  have hf : f = f' := by omega
  subst h3 h4 h5 h7 h8 h9 h10 hf
  rfl
theorem sortedV {Y : List RV} (h : SortedK keyV Y) : SortedK keyR (Y.map (·.r)) := by
  unfold SortedK at *
  rw [List.pairwise_map]
  exact h
theorem sorted_one {Y Z : List RV} (hY : SortedK keyV Y) (hZ : SortedK keyV Z) (hp : (Y.map (·.r)).Perm (Z.map (·.r))) : Y.map (·.r) = Z.map (·.r) := sortedK_unique keyR keyR_inj hp (sortedV hY) (sortedV hZ)
/-- the first of a sorted list is the one that none is ahead of. -/
theorem best_head {X Y : List RV} (hY : SortedK keyV Y) (hp : Y.Perm X) (hX : 0 < X.length) {y : Ro} (h1 : ∃ x ∈ X, y = x.r) (h2 : ∀ x ∈ X, ltI (keyR x.r) (keyR y) = false) : (Y.take 1).map (·.r) = [y] := by
  cases Y with
  | nil => have := hp.length_eq; simp at this; omega
  | cons a R =>
    simp only [List.take_succ_cons, List.take_zero, List.map_cons, List.map_nil]
    have s1 := sortedV hY
    have s2 := hp.map (·.r)
    rw [List.map_cons] at s1 s2
    have hb := sortedK_best keyR s1 s2
    have hc : BestK keyR (X.map (·.r)) y := by
      obtain ⟨x, hx, rfl⟩ := h1
      exact ⟨List.mem_map_of_mem hx, fun z hz => by obtain ⟨x', hx', rfl⟩ := List.mem_map.1 hz; exact h2 x' hx'⟩
    rw [bestK_unique keyR keyR_inj (List.Perm.refl _) hb hc]
theorem mod_of {X : List RV} (h : longRs X = false) : X.length ≤ 30 ∧ ∀ x ∈ X, x.r.att.path.length ≤ 1000000 ∧ x.r.att.tags.length ≤ 1000000 := by
  unfold longRs at h
  rw [Bool.or_eq_false_iff, decide_eq_false_iff_not] at h
  refine ⟨by omega, fun x hx => ?_⟩
  have := List.any_eq_false.1 h.2 x hx
  simp only [longA, Bool.or_eq_true, decide_eq_true_eq, not_or] at this
  omega
theorem long_of {A : At} (h : longA A = false) : A.path.length ≤ 1000000 ∧ A.tags.length ≤ 1000000 := by
  simp only [longA, Bool.or_eq_false_iff, decide_eq_false_iff_not] at h
  omega
theorem modL {X : List RV} {L : List Ro} (h : X.map (·.r) = L) (hm : ∀ x ∈ X, x.r.att.path.length ≤ 1000000 ∧ x.r.att.tags.length ≤ 1000000) : Mod L := fun r hr => by
  rw [← h] at hr
  obtain ⟨x, hx, rfl⟩ := List.mem_map.1 hr
  exact hm x hx
end Go.Proofs.Ytkcacdlgmapjjaa
