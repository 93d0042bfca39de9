/-
  A row's condition on errors: each listed one is an *errors.errorString, no two are one, and their blocks bear no frozen range.
-/
import Derived.Test.YthehpnhjfnenoaaDoorRows
import Derived.LaidLaws
import Derived.Stop.LaidErr
namespace Go.Proofs.YthehpnhjfnenoaaDoor
open Go.RowKit Go.ChangeShapes

theorem star : "*" ++ "errors.errorString" = "*errors.errorString" := by decide
theorem rowE (u : TypeId) (h : Tryd.prog.typeName? 3 u = some "*errors.errorString") : u = 72 :=
  typeName_ptr_named (nm := "errors.errorString") (by rw [star]; kernel_rfl) (by kernel_rfl) (by decide) u (by rw [star]; exact h)
theorem cellsS : Tryd.prog.cellsOf 74 = 1 := by kernel_rfl
theorem cellsStr : Tryd.prog.cellsOf 9 = 1 := by kernel_rfl

def errD (text : List UInt8) : DataW Unit := .iface "*errors.errorString" (.ptr (.agg [.lit (.string text)]))

set_option maxRecDepth 100000 in
/-- A list of errors, and whatever stands behind it on the list: their pointers, no two one. -/
theorem errs_of_laid {W : World} : ∀ (l : List (String × List UInt8)) (rest : List (String × DataW Unit)) (ps : List MemPlace),
    (∀ x ∈ l, ∃ g, Tryd.prog.globalNamed x.1 = some g ∧ (Tryd.prog.globals[g]?).map (·.type) = some 25) →
    DataW.LaidVars Tryd.prog W (l.map (fun x => (x.1, errD x.2)) ++ rest) ps → ps.Nodup →
    (∀ b off, MemPlace.cell b off ∈ ps → (∃ c t, W.heap[b]? = some (.cells c t (0, 0))) ∧ ∀ u v, W.cell? ⟨b, off, none⟩ = some (.iface u v) → Value.okWide Tryd.prog W .any 0 u v) →
    ∃ az : List Addr, az.length = l.length ∧ az.Nodup ∧ (∀ a ∈ az, MemPlace.cell a.block a.off ∈ ps) ∧
      ∀ (i : Nat) (x : String × List UInt8), l[i]? = some x → ∃ a, az[i]? = some a ∧ W.var? Tryd.prog x.1 = some #[.iface 72 (.pointer (some a))] ∧ ∃ c t, W.heap[a.block]? = some (.cells c t (0, 0))
  | [], _, _, _, _, _, _ => ⟨[], rfl, List.nodup_nil, (fun _ h => by cases h), (fun i x h => by simp at h)⟩
  | (n, text) :: l, rest, ps, hg, hv, hnd, hrows => by
    obtain ⟨g, hgn, hgt⟩ := hg _ (List.mem_cons_self ..)
    obtain ⟨g0, t0, cs0, f0, p0, q0, hg0, ht0, hv0, hd0, hq, e0⟩ := hv
    obtain rfl := Option.some.inj (hgn.symm.trans hg0)
    obtain rfl := Option.some.inj (hgt.symm.trans ht0)
    subst e0
    obtain ⟨l0⟩ := cs0
    have ok0 : ∀ u v, l0 = [.iface u v] → Value.okWide Tryd.prog W .any 0 u v := fun u v e => by
      subst e
      exact (hrows g 0 (by simp [MemPlace.row])).2 u v (by simpa using World.var?_cell hg0 hv0 0)
    obtain ⟨a0, s0, rfl, hc0, hs0, hz0, rfl⟩ := errorString_of_trod Tryd.underlying25 rowE Tryd.underlying72 Tryd.underlying74 rfl rfl Tryd.underlying9 cellsS cellsStr hd0 ok0
    obtain ⟨c, t, hb⟩ := (hrows a0.block a0.off (by simp [MemPlace.row])).1
    obtain ⟨az, hlen, hnda, hmem, hget⟩ := errs_of_laid l rest q0 (fun x hx => hg x (List.mem_cons_of_mem _ hx)) hq (List.Nodup.sublist (List.sublist_append_right _ _) hnd) (fun b off hm => hrows b off (List.mem_append_right _ hm))
    have hnot : a0 ∉ az := fun hm => by
      have h1 := hmem a0 hm
      have h2 := (List.nodup_append.1 hnd).2.2 (MemPlace.cell a0.block a0.off) (by simp [MemPlace.row]) _ h1
      exact h2 rfl
    refine ⟨a0 :: az, by simp [hlen], List.nodup_cons.2 ⟨hnot, hnda⟩, ?_, ?_⟩
    · intro a ha
      rcases List.mem_cons.1 ha with rfl | ha
      · simp [MemPlace.row]
      · exact List.mem_append_right _ (hmem a ha)
    · intro i x hx
      cases i with
      | zero =>
        simp only [List.getElem?_cons_zero, Option.some.injEq] at hx
        subst hx
        exact ⟨a0, rfl, hv0, c, t, hb⟩
      | succ i =>
        simp only [List.getElem?_cons_succ] at hx ⊢
        exact hget i x hx
end Go.Proofs.YthehpnhjfnenoaaDoor
