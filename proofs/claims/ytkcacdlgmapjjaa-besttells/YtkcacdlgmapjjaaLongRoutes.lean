/-
  The law's LongRoutes and OwnRoutes: what they return.
-/
import Derived.Test.YtkcacdlgmapjjaaRvRow
import Derived.Test.YtkcacdlgmapjjaaRouteArgs
import Derived.Test.YtkcacdlgmapjjaaBestMin
import Derived.Deep.Cut
namespace Go.Proofs.Ytkcacdlgmapjjaa
open Go.RowKit

/-- are routes too many, or too long, for a law? -/
def longRs (X : List RV) : Bool := decide (30 < X.length) || X.any fun x => longA x.r.att
theorem rvCellA {w : World} {b o : Nat} {x : RV} (h : RvCell w b o x) : w.cell? ⟨b, o + 2, none⟩ = some (.slice x.p x.r.att.path.length x.cp) ∧ w.cell? ⟨b, o + 3, none⟩ = some (.int .i64 x.r.att.pref) ∧ w.cell? ⟨b, o + 4, none⟩ = some (.int .i64 x.r.att.med) ∧ w.cell? ⟨b, o + 5, none⟩ = some (.int .i64 x.r.att.org) ∧ w.cell? ⟨b, o + 6, none⟩ = some (.slice x.q x.r.att.tags.length x.cq) :=
  ⟨h 2 _ rfl, h 3 _ rfl, h 4 _ rfl, h 5 _ rfl, h 6 _ rfl⟩
set_option linter.unusedVariables false in
set_option linter.unusedSimpArgs false in
set_option maxRecDepth 100000 in
set_option maxHeartbeats 4000000 in
theorem longRoutes_any (X : List RV) (p : Option Addr) (cap : Nat) (w : World) (hc : RvRow w p X) (hr : ∀ x ∈ X, RvIn w x) :
    Calls Try.prog 6 #[.slice p X.length cap] w fun r w' => r = .returned (.int .i64 (if longRs X then 1 else 0)) ∧ Below w.heap.size w w' := by
  obtain ⟨res, hres⟩ : ∃ x, Hid ((if longRs X then (1 : Int) else 0) = x) := ⟨_, show _ = _ from rfl⟩
  rw [show (if longRs X then (1 : Int) else 0) = res from hres.out]
  obtain ⟨HX⟩ : Nonempty (Hid (∀ w', Below w.heap.size w w' → RvRow w' p X ∧ ∀ x ∈ X, RvIn w' x)) := ⟨fun w' hb => ⟨hc.below hb, fun x hx => ⟨(hr x hx).1.below hb, (hr x hx).2.below hb⟩⟩⟩
  obtain ⟨HS⟩ : Nonempty (Hid (Below w.heap.size w w)) := ⟨Below.refl _ _⟩
  clear hc hr
  by_cases h30 : 30 < X.length
  · have h30z : (30 : Int) < X.length := by omega
    obtain ⟨HR⟩ : Nonempty (Hid (res = 1)) := ⟨by
      show _ = _
      rw [← hres.out]
      unfold longRs
      rw [decide_eq_true h30]
      rfl⟩
    clear h30
    go_enter Try.func6, Try.ntmps6
    go_wp2_with fail
    go_ret
    exact ⟨by rw [HR.out]; rfl, HS.out⟩
  · have h30z : ¬ (30 : Int) < X.length := by omega
    obtain ⟨HQ⟩ : Nonempty (Hid (longRs X = X.any fun x => longA x.r.att)) := ⟨by show _ = _; unfold longRs; rw [decide_eq_false h30]; rfl⟩
    clear h30
    go_enter Try.func6, Try.ntmps6
    go_wp2_with fail
    go_loopw [3] (fun i wr => ∃ k : Nat, i = .int .i64 k ∧ k ≤ X.length ∧ Hid (∀ x ∈ X.take k, longA x.r.att = false) ∧ Hid (Below w.heap.size w wr)) (fun i _ => X.length - (intOf i).toNat)
    case atStart => exact ⟨0, rfl, Nat.zero_le _, by show ∀ _ ∈ _, _; simp, HS⟩
    case round =>
      obtain ⟨k, rfl, hk, HK, HW⟩ := hrel
      by_cases hlt : k < X.length
      · have hltz : (k : Int) < X.length := by omega
        obtain ⟨x, hx⟩ : ∃ x, Hid (X[k] = x) := ⟨_, show _ = _ from rfl⟩
        obtain ⟨b, o, rfl, hcell⟩ := (HX.out wr HW.out).1 k hlt
        rw [show X[k] = x from hx.out] at hcell
        have hin := (HX.out wr HW.out).2 _ (List.getElem_mem hlt)
        rw [show X[k] = x from hx.out] at hin
        obtain ⟨a2, a3, a4, a5, a6⟩ := rvCellA hcell
        obtain ⟨HC⟩ : Nonempty (Hid (Calls Try.prog 11 #[.agg #[.slice x.p x.r.att.path.length x.cp, .int .i64 x.r.att.pref, .int .i64 x.r.att.med, .int .i64 x.r.att.org, .slice x.q x.r.att.tags.length x.cq]] wr fun r w' => r = .returned (.int .i64 (if longA x.r.att then 1 else 0)) ∧ Below wr.heap.size wr w')) := ⟨rLongAttr_any _ x.r.att wr ⟨x.p, x.cp, x.q, x.cq, rfl, hin.1, hin.2⟩⟩
        obtain ⟨HN⟩ : Nonempty (Hid (longA x.r.att = false → ∀ x ∈ X.take (k + 1), longA x.r.att = false)) := ⟨fun h y hy => by
          rw [List.take_succ_eq_append_getElem hlt, List.mem_append, List.mem_singleton, show X[k] = x from hx.out] at hy
          rcases hy with hy | rfl
          · exact HK.out y hy
          · exact h⟩
        obtain ⟨HM⟩ : Nonempty (Hid (x ∈ X)) := ⟨by rw [← hx.out]; exact List.getElem_mem hlt⟩
        clear hcell hin
        cases hlo : longA x.r.att with
        | true =>
          obtain ⟨HR⟩ : Nonempty (Hid (res = 1)) := ⟨by
            show _ = _
            rw [← hres.out, HQ.out, show (X.any fun x => longA x.r.att) = true from List.any_eq_true.2 ⟨x, HM.out, hlo⟩]
            rfl⟩
          have hc := HC.out
          rw [hlo] at hc
          clear hlo HC HN
          go_wp2_with (go_at_call 11; refine hc.mono ?_; rintro e w1 ⟨rfl, hb1⟩)
          go_ret
          exact ⟨by rw [HR.out]; rfl, HW.out.trans (hb1.mono HW.out.size)⟩
        | false =>
          obtain ⟨HN2⟩ : Nonempty (Hid (∀ x ∈ X.take (k + 1), longA x.r.att = false)) := ⟨HN.out hlo⟩
          have hc := HC.out
          rw [hlo] at hc
          clear hlo HC HN
          go_wp2_with (go_at_call 11; refine hc.mono ?_; rintro e w1 ⟨rfl, hb1⟩)
          go_roundw
          case rel => exact ⟨k + 1, by go_num, by omega, HN2, HW.out.trans (hb1.mono HW.out.size)⟩
          case measure => simp [intOf]; omega
      · have hltz : ¬ (k : Int) < X.length := by omega
        obtain ⟨HR⟩ : Nonempty (Hid (res = 0)) := ⟨by
          show _ = _
          have h := HK.out
          rw [List.take_of_length_le (by omega)] at h
          rw [← hres.out, HQ.out, show (X.any fun x => longA x.r.att) = false from List.any_eq_false.2 fun x hx => by rw [h x hx]; simp]
          rfl⟩
        go_wp2_with fail
        go_ret
        exact ⟨by rw [HR.out]; rfl, HW.out⟩
end Go.Proofs.Ytkcacdlgmapjjaa
