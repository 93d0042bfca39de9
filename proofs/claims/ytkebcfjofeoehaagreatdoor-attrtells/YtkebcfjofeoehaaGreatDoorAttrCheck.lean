/-
  Package attr's Check: what it returns at every attribute; bare: an error without its place.
-/
import Derived.Test.YtkebcfjofeoehaaGreatDoorPlace
import Derived.Test.YtkebcfjofeoehaaGreatDoorAttrFault
namespace Go.Proofs.YtkebcfjofeoehaaGreatDoor
open Go.RowKit

def qP (P : List Int) (k : Nat) : Nat := if badP P k then 2 else 0
def qT (T : List Int) (k : Nat) : Nat := if outB (T.getD k 0) 9999 then 2 else if badT T k then 8 else 0
theorem enters_path : ∀ args w, (callFunc 54 args).run Tryz.prog w = .ok (.enter 54 args) w := fun args w => by kernel_rfl
theorem enters_tags : ∀ args w, (callFunc 55 args).run Tryz.prog w = .ok (.enter 55 args) w := fun args w => by kernel_rfl

set_option linter.unusedVariables false in
set_option maxRecDepth 100000 in
set_option maxHeartbeats 1000000 in
theorem ask_path (p : Option Addr) (P : List Int) (cp B : Nat) (E : Nat → Addr) (m : Int) (w : World) (hE : AttrEnv w E m) (h : Ints w p P) (hc : w.cell? ⟨B, 0, none⟩ = some (.slice p P.length cp)) (hl : P.length ≤ 1000000) :
    Asked 54 (.pointer (some ⟨B, 0, none⟩)) E P.length (qP P) w := by
  refine ⟨enters_path, fun k W hk hb => ?_⟩
  have c0 := cell_kept hb hc
  have eb := cell_kept hb hE.bound
  obtain ⟨b, o, rfl, x0⟩ := h k hk
  have d0 := cell_kept hb x0
  have hx : P.getD k 0 = P[k] := by simp [List.getD, hk]
  obtain ⟨x, hx0⟩ : ∃ x, Hid (P[k] = x) := ⟨_, show _ = _ from rfl⟩
  rw [hx0.out] at d0
  have eq : qP P k = if outB x 1000 then 2 else 0 := by unfold qP badP; rw [hx, hx0.out]
  rw [eq]
  have q3 : (k : Int) < P.length := by omega
  obtain ⟨HC⟩ : Nonempty (Hid (Calls _ _ _ _ _)) := ⟨isSystem_any x W⟩
  rw [inB3_out]
  clear eq hx hx0 x0 hE h hc hb
  cases hin : inB3 x 1 1000 with
  | true =>
    rw [hin] at HC
    go_enter Tryz.func54, Tryz.ntmps54
    go_wp2_with fail
    refine HC.out.mono ?_
    rintro e w1 ⟨rfl, rfl⟩
    go_wp2_with fail
    go_ret
    exact ⟨rfl, Below.refl _ _⟩
  | false =>
    rw [hin] at HC
    go_enter Tryz.func54, Tryz.ntmps54
    go_wp2_with fail
    refine HC.out.mono ?_
    rintro e w1 ⟨rfl, rfl⟩
    go_wp2_with fail
    go_ret
    exact ⟨rfl, Below.refl _ _⟩

set_option linter.unusedVariables false in
set_option maxRecDepth 100000 in
set_option maxHeartbeats 2000000 in
theorem ask_tags (p : Option Addr) (T : List Int) (cp B : Nat) (E : Nat → Addr) (m : Int) (w : World) (hE : AttrEnv w E m) (h : Ints w p T) (hc : w.cell? ⟨B, 0, none⟩ = some (.slice p T.length cp)) (hl : T.length ≤ 1000000) :
    Asked 55 (.pointer (some ⟨B, 0, none⟩)) E T.length (qT T) w := by
  refine ⟨enters_tags, fun k W hk hb => ?_⟩
  have c0 := cell_kept hb hc
  have eb := cell_kept hb hE.bound
  have eo := cell_kept hb hE.order
  have hi := h
  obtain ⟨b, o, rfl, x0⟩ := h k hk
  have d0 := cell_kept hb x0
  have hx : T.getD k 0 = T[k] := by simp [List.getD, hk]
  obtain ⟨x, hx0⟩ : ∃ x, Hid (T[k] = x) := ⟨_, show _ = _ from rfl⟩
  rw [hx0.out] at d0
  have q3 : (k : Int) < T.length := by omega
  obtain ⟨HC⟩ : Nonempty (Hid (Calls _ _ _ _ _)) := ⟨isTag_any x W⟩
  cases hin : inB3 x 1 9999 with
  | false =>
    rw [hin] at HC
    have eq : qT T k = 2 := by unfold qT; rw [hx, hx0.out, inB3_out, hin]; rfl
    rw [eq]
    clear eq hx hx0 x0 hE hi hc hb
    go_enter Tryz.func55, Tryz.ntmps55
    go_wp2_with fail
    refine HC.out.mono ?_
    rintro e w1 ⟨rfl, rfl⟩
    go_wp2_with fail
    go_ret
    exact ⟨rfl, Below.refl _ _⟩
  | true =>
    rw [hin] at HC
    have ho : outB (T.getD k 0) 9999 = false := by rw [hx, hx0.out, inB3_out, hin]; rfl
    cases k with
    | zero =>
      have eq : qT T 0 = 0 := by unfold qT badT; rw [ho]; rfl
      rw [eq]
      simp only [Nat.add_zero] at d0
      clear eq hx hx0 x0 hE hi hc hb ho
      go_enter Tryz.func55, Tryz.ntmps55
      go_wp2_with fail
      refine HC.out.mono ?_
      rintro e w1 ⟨rfl, rfl⟩
      go_wp2_with fail
      go_quiet (fail)
      go_wp2_with fail
      go_ret
      exact ⟨rfl, below_drewN (Below.refl _ _) _⟩
    | succ j =>
      obtain ⟨b', o', he', y0⟩ := hi j (by omega)
      simp only [Option.some.injEq, Addr.mk.injEq, and_true] at he'
      obtain ⟨rfl, rfl⟩ := he'
      have e0 := cell_kept hb y0
      have hy : T.getD (j + 1 - 1) 0 = T[j] := by simp [List.getD, show j < T.length by omega]
      obtain ⟨y, hy0⟩ : ∃ x, Hid (T[j] = x) := ⟨_, show _ = _ from rfl⟩
      rw [hy0.out] at e0
      have hj1 : ((j + 1 : Nat) : Int) - 1 = (j : Int) := by omega
      have hj2 : IntKind.i64.wrap (j : Int) = (j : Int) := wrapi _ (by omega)
      have hj3 : (j : Int) < T.length := by omega
      have hj4 : decide (0 < ((j + 1 : Nat) : Int)) = true := decide_eq_true (by omega)
      cases hle : decide (x ≤ y) with
      | true =>
        have eq : qT T (j + 1) = 8 := by unfold qT badT; rw [ho, hx, hy, hx0.out, hy0.out, hle]; simp
        rw [eq]
        clear eq hx hx0 x0 hE hi hc hb ho hy hy0 y0
        go_enter Tryz.func55, Tryz.ntmps55
        go_wp2_with fail
        refine HC.out.mono ?_
        rintro e w1 ⟨rfl, rfl⟩
        go_wp2_with fail
        go_quiet (fail)
        go_wp2_with fail
        go_ret
        exact ⟨rfl, below_drewN (Below.refl _ _) _⟩
      | false =>
        have eq : qT T (j + 1) = 0 := by unfold qT badT; rw [ho, hx, hy, hx0.out, hy0.out, hle]; simp
        rw [eq]
        clear eq hx hx0 x0 hE hi hc hb ho hy hy0 y0
        go_enter Tryz.func55, Tryz.ntmps55
        go_wp2_with fail
        refine HC.out.mono ?_
        rintro e w1 ⟨rfl, rfl⟩
        go_wp2_with fail
        go_quiet (fail)
        go_wp2_with fail
        go_ret
        exact ⟨rfl, below_drewN (Below.refl _ _) _⟩

theorem box_one (w : World) (v : Value) (t : TypeId) : (w.alloc (.cells #[v] t)).cell? ⟨w.heap.size, 0, none⟩ = some v := by rw [World.cell?_alloc_at _ _ _ _ rfl]; rfl

set_option linter.unusedVariables false in
set_option maxRecDepth 100000 in
set_option maxHeartbeats 1000000 in
theorem checkPath_any (p : Option Addr) (P : List Int) (cp : Nat) (E : Nat → Addr) (m : Int) (w : World) (hE : AttrEnv w E m) (h : Ints w p P) (hl : P.length ≤ 1000000) :
    Calls Tryz.prog 26 #[.slice p P.length cp] w fun r w' => (∃ v, r = .returned v ∧ IsErr w' E v (firstQ (qP P) P.length).1 (firstQ (qP P) P.length).2) ∧ Below w.heap.size w w' := by
  have hb := below_alloc w (.cells #[.slice p P.length cp] 22)
  obtain ⟨HC⟩ : Nonempty (Hid (Calls _ _ _ _ _)) := ⟨firstAsk_any P.length _ _ E m (qP P) (w.alloc (.cells #[.slice p P.length cp] 22)) (hE.below hb) (ask_path p P cp w.heap.size E m _ (hE.below hb) (h.below hb) (box_one _ _ _) hl) hl⟩
  obtain ⟨HB⟩ : Nonempty (Hid (Below _ _ _)) := ⟨hb⟩
  obtain ⟨c, hc⟩ : ∃ c, Hid ((firstQ (qP P) P.length).1 = c) := ⟨_, show _ = _ from rfl⟩
  obtain ⟨d, hd⟩ : ∃ c, Hid ((firstQ (qP P) P.length).2 = c) := ⟨_, show _ = _ from rfl⟩
  rw [show (firstQ (qP P) P.length).1 = c from hc.out, show (firstQ (qP P) P.length).2 = d from hd.out] at HC ⊢
  clear hb hE h
  go_enter Tryz.func26, Tryz.ntmps26
  go_wp2_with fail
  refine HC.out.mono ?_
  rintro e w1 ⟨⟨v, rfl, hv⟩, hb1⟩
  obtain ⟨HV⟩ : Nonempty (Hid (IsErr w1 E v c d ∧ Below w.heap.size w w1)) := ⟨⟨hv, HB.out.trans (hb1.mono HB.out.size)⟩⟩
  clear hv hb1
  go_wp2_with fail
  go_ret
  exact ⟨⟨v, rfl, HV.out.1⟩, HV.out.2⟩
set_option linter.unusedVariables false in
set_option maxRecDepth 100000 in
set_option maxHeartbeats 1000000 in
theorem checkTags_any (p : Option Addr) (T : List Int) (cp : Nat) (E : Nat → Addr) (m : Int) (w : World) (hE : AttrEnv w E m) (h : Ints w p T) (hl : T.length ≤ 1000000) :
    Calls Tryz.prog 28 #[.slice p T.length cp] w fun r w' => (∃ v, r = .returned v ∧ IsErr w' E v (firstQ (qT T) T.length).1 (firstQ (qT T) T.length).2) ∧ Below w.heap.size w w' := by
  have hb := below_alloc w (.cells #[.slice p T.length cp] 22)
  obtain ⟨HC⟩ : Nonempty (Hid (Calls _ _ _ _ _)) := ⟨firstAsk_any T.length _ _ E m (qT T) (w.alloc (.cells #[.slice p T.length cp] 22)) (hE.below hb) (ask_tags p T cp w.heap.size E m _ (hE.below hb) (h.below hb) (box_one _ _ _) hl) hl⟩
  obtain ⟨HB⟩ : Nonempty (Hid (Below _ _ _)) := ⟨hb⟩
  obtain ⟨c, hc⟩ : ∃ c, Hid ((firstQ (qT T) T.length).1 = c) := ⟨_, show _ = _ from rfl⟩
  obtain ⟨d, hd⟩ : ∃ c, Hid ((firstQ (qT T) T.length).2 = c) := ⟨_, show _ = _ from rfl⟩
  rw [show (firstQ (qT T) T.length).1 = c from hc.out, show (firstQ (qT T) T.length).2 = d from hd.out] at HC ⊢
  clear hb hE h
  go_enter Tryz.func28, Tryz.ntmps28
  go_wp2_with fail
  refine HC.out.mono ?_
  rintro e w1 ⟨⟨v, rfl, hv⟩, hb1⟩
  obtain ⟨HV⟩ : Nonempty (Hid (IsErr w1 E v c d ∧ Below w.heap.size w w1)) := ⟨⟨hv, HB.out.trans (hb1.mono HB.out.size)⟩⟩
  clear hv hb1
  go_wp2_with fail
  go_ret
  exact ⟨⟨v, rfl, HV.out.1⟩, HV.out.2⟩

theorem qP_bad (P : List Int) : (fun k => decide (qP P k ≠ 0)) = badP P := by
  funext k
  unfold qP
  cases badP P k <;> rfl
theorem qT_bad (T : List Int) : (fun k => decide (qT T k ≠ 0)) = badT T := by
  funext k
  unfold qT
  cases ho : outB (T.getD k 0) 9999 with
  | true => unfold badT; rw [ho]; rfl
  | false => cases badT T k <;> rfl
/-- the numbers of the first fault, by its parts. -/
theorem fault_parts (A : At) (h1 : fullA A = false) : ((faultA A).1.toNat, (faultA A).2) =
    if 0 < (firstQ (qP A.path) A.path.length).1 then firstQ (qP A.path) A.path.length
    else if numsA A then (2, -1) else firstQ (qT A.tags) A.tags.length := by
  unfold faultA firstQ
  rw [if_neg (by simp [h1]), qP_bad, qT_bad]
  by_cases h2 : firstN (badP A.path) A.path.length < A.path.length
  · have hb := (firstN_spec (badP A.path) A.path.length).2.2 h2
    rw [if_pos h2, if_pos h2]
    simp [qP, hb]
  · rw [if_neg h2, if_neg h2]
    cases h3 : numsA A with
    | true => simp
    | false =>
      by_cases h4 : firstN (badT A.tags) A.tags.length < A.tags.length
      · have hb := (firstN_spec (badT A.tags) A.tags.length).2.2 h4
        simp only [Nat.lt_irrefl, if_false, Bool.false_eq_true, h4, if_true]
        unfold qT
        cases ho : outB (A.tags.getD (firstN (badT A.tags) A.tags.length) 0) 9999 with
        | true => simp
        | false => simp [hb]
      · simp only [Nat.lt_irrefl, if_false, Bool.false_eq_true, h4]
        rfl
end Go.Proofs.YtkebcfjofeoehaaGreatDoor
