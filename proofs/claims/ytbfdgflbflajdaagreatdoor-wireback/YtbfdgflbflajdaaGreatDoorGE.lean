/-
  Package attr's Check: what it returns at every attribute; bare: an error without its place.
  The document's list of numbers (herepathref1.list): what it returns.
  The document's text of an attribute (herepathref1.AttrText): what it returns.
  Package attr's Check and bare: what they return.
-/
import Derived.Test.YtbfdgflbflajdaaGreatDoorGD
import Derived.Test.YtbfdgflbflajdaaGreatDoorAttrFault
import Derived.Test.YtbfdgflbflajdaaGreatDoorGB
import Derived.Test.YtbfdgflbflajdaaGreatDoorGC
namespace Go.Proofs.YtbfdgflbflajdaaGreatDoor
open Go.RowKit

def qP (P : List Int) (k : Nat) : Nat := if badP P k then 2 else 0
def qT (T : List Int) (k : Nat) : Nat := if outB (T.getD k 0) 9999 then 2 else if badT T k then 8 else 0
theorem enters_path : ∀ args w, (callFunc 72 args).run Tryz.prog w = .ok (.enter 72 args) w := fun args w => by kernel_rfl
theorem enters_tags : ∀ args w, (callFunc 73 args).run Tryz.prog w = .ok (.enter 73 args) w := fun args w => by kernel_rfl

set_option linter.unusedVariables false in
set_option maxRecDepth 100000 in
set_option maxHeartbeats 1000000 in
theorem ask_path (p : Option Addr) (P : List Int) (cp B : Nat) (E : Nat → Addr) (m : Int) (w : World) (hE : AttrEnv w E m) (h : Ints w p P) (hc : w.cell? ⟨B, 0, none⟩ = some (.slice p P.length cp)) (hl : P.length ≤ 1000000) :
    Asked 72 (.pointer (some ⟨B, 0, none⟩)) E P.length (qP P) w := by
  refine ⟨enters_path, fun k W hk hb => ?_⟩
  have c0 := cell_kept hb hc
  have eb := cell_kept hb hE.bound
  obtain ⟨b, o, rfl, x0⟩ := h k hk
  have d0 := cell_kept hb x0
  have hx : P.getD k 0 = P[k] := by simp [List.getD, hk]
  obtain ⟨x, hx0⟩ : ∃ x, Hid (P[k] = x) := ⟨_, show _ = _ from rfl⟩
  rw [hx0.out] at d0
  have eq : qP P k = if outB x 1000 then 2 else 0 := by unfold qP badP; rw [hx, hx0.out]
  rw [eq]
  have q3 : (k : Int) < P.length := by omega
  obtain ⟨HC⟩ : Nonempty (Hid (Calls _ _ _ _ _)) := ⟨isSystem_any x W⟩
  rw [inB3_out]
  clear eq hx hx0 x0 hE h hc hb
  cases hin : inB3 x 1 1000 with
  | true =>
    rw [hin] at HC
    go_enter Tryz.func72, Tryz.ntmps72
    go_wp2_with fail
    refine HC.out.mono ?_
    rintro e w1 ⟨rfl, rfl⟩
    go_wp2_with fail
    go_ret
    exact ⟨rfl, Below.refl _ _⟩
  | false =>
    rw [hin] at HC
    go_enter Tryz.func72, Tryz.ntmps72
    go_wp2_with fail
    refine HC.out.mono ?_
    rintro e w1 ⟨rfl, rfl⟩
    go_wp2_with fail
    go_ret
    exact ⟨rfl, Below.refl _ _⟩

set_option linter.unusedVariables false in
set_option maxRecDepth 100000 in
set_option maxHeartbeats 2000000 in
theorem ask_tags (p : Option Addr) (T : List Int) (cp B : Nat) (E : Nat → Addr) (m : Int) (w : World) (hE : AttrEnv w E m) (h : Ints w p T) (hc : w.cell? ⟨B, 0, none⟩ = some (.slice p T.length cp)) (hl : T.length ≤ 1000000) :
    Asked 73 (.pointer (some ⟨B, 0, none⟩)) E T.length (qT T) w := by
  refine ⟨enters_tags, fun k W hk hb => ?_⟩
  have c0 := cell_kept hb hc
  have eb := cell_kept hb hE.bound
  have eo := cell_kept hb hE.order
  have hi := h
  obtain ⟨b, o, rfl, x0⟩ := h k hk
  have d0 := cell_kept hb x0
  have hx : T.getD k 0 = T[k] := by simp [List.getD, hk]
  obtain ⟨x, hx0⟩ : ∃ x, Hid (T[k] = x) := ⟨_, show _ = _ from rfl⟩
  rw [hx0.out] at d0
  have q3 : (k : Int) < T.length := by omega
  obtain ⟨HC⟩ : Nonempty (Hid (Calls _ _ _ _ _)) := ⟨isTag_any x W⟩
  cases hin : inB3 x 1 9999 with
  | false =>
    rw [hin] at HC
    have eq : qT T k = 2 := by unfold qT; rw [hx, hx0.out, inB3_out, hin]; rfl
    rw [eq]
    clear eq hx hx0 x0 hE hi hc hb
    go_enter Tryz.func73, Tryz.ntmps73
    go_wp2_with fail
    refine HC.out.mono ?_
    rintro e w1 ⟨rfl, rfl⟩
    go_wp2_with fail
    go_ret
    exact ⟨rfl, Below.refl _ _⟩
  | true =>
    rw [hin] at HC
    have ho : outB (T.getD k 0) 9999 = false := by rw [hx, hx0.out, inB3_out, hin]; rfl
    cases k with
    | zero =>
      have eq : qT T 0 = 0 := by unfold qT badT; rw [ho]; rfl
      rw [eq]
      simp only [Nat.add_zero] at d0
      clear eq hx hx0 x0 hE hi hc hb ho
      go_enter Tryz.func73, Tryz.ntmps73
      go_wp2_with fail
      refine HC.out.mono ?_
      rintro e w1 ⟨rfl, rfl⟩
      go_wp2_with fail
      go_quiet (fail)
      go_wp2_with fail
      go_ret
      exact ⟨rfl, below_drewN (Below.refl _ _) _⟩
    | succ j =>
      obtain ⟨b', o', he', y0⟩ := hi j (by omega)
      simp only [Option.some.injEq, Addr.mk.injEq, and_true] at he'
      obtain ⟨rfl, rfl⟩ := he'
      have e0 := cell_kept hb y0
      have hy : T.getD (j + 1 - 1) 0 = T[j] := by simp [List.getD, show j < T.length by omega]
      obtain ⟨y, hy0⟩ : ∃ x, Hid (T[j] = x) := ⟨_, show _ = _ from rfl⟩
      rw [hy0.out] at e0
      have hj1 : ((j + 1 : Nat) : Int) - 1 = (j : Int) := by omega
      have hj2 : IntKind.i64.wrap (j : Int) = (j : Int) := wrapi _ (by omega)
      have hj3 : (j : Int) < T.length := by omega
      have hj4 : decide (0 < ((j + 1 : Nat) : Int)) = true := decide_eq_true (by omega)
      cases hle : decide (x ≤ y) with
      | true =>
        have eq : qT T (j + 1) = 8 := by unfold qT badT; rw [ho, hx, hy, hx0.out, hy0.out, hle]; simp
        rw [eq]
        clear eq hx hx0 x0 hE hi hc hb ho hy hy0 y0
        go_enter Tryz.func73, Tryz.ntmps73
        go_wp2_with fail
        refine HC.out.mono ?_
        rintro e w1 ⟨rfl, rfl⟩
        go_wp2_with fail
        go_quiet (fail)
        go_wp2_with fail
        go_ret
        exact ⟨rfl, below_drewN (Below.refl _ _) _⟩
      | false =>
        have eq : qT T (j + 1) = 0 := by unfold qT badT; rw [ho, hx, hy, hx0.out, hy0.out, hle]; simp
        rw [eq]
        clear eq hx hx0 x0 hE hi hc hb ho hy hy0 y0
        go_enter Tryz.func73, Tryz.ntmps73
        go_wp2_with fail
        refine HC.out.mono ?_
        rintro e w1 ⟨rfl, rfl⟩
        go_wp2_with fail
        go_quiet (fail)
        go_wp2_with fail
        go_ret
        exact ⟨rfl, below_drewN (Below.refl _ _) _⟩

theorem box_one (w : World) (v : Value) (t : TypeId) : (w.alloc (.cells #[v] t)).cell? ⟨w.heap.size, 0, none⟩ = some v := by rw [World.cell?_alloc_at _ _ _ _ rfl]; rfl

set_option linter.unusedVariables false in
set_option maxRecDepth 100000 in
set_option maxHeartbeats 1000000 in
theorem checkPath_any (p : Option Addr) (P : List Int) (cp : Nat) (E : Nat → Addr) (m : Int) (w : World) (hE : AttrEnv w E m) (h : Ints w p P) (hl : P.length ≤ 1000000) :
    Calls Tryz.prog 34 #[.slice p P.length cp] w fun r w' => (∃ v, r = .returned v ∧ IsErr w' E v (firstQ (qP P) P.length).1 (firstQ (qP P) P.length).2) ∧ Below w.heap.size w w' := by
  have hb := below_alloc w (.cells #[.slice p P.length cp] 22)
  obtain ⟨HC⟩ : Nonempty (Hid (Calls _ _ _ _ _)) := ⟨firstAsk_any P.length _ _ E m (qP P) (w.alloc (.cells #[.slice p P.length cp] 22)) (hE.below hb) (ask_path p P cp w.heap.size E m _ (hE.below hb) (h.below hb) (box_one _ _ _) hl) hl⟩
  obtain ⟨HB⟩ : Nonempty (Hid (Below _ _ _)) := ⟨hb⟩
  obtain ⟨c, hc⟩ : ∃ c, Hid ((firstQ (qP P) P.length).1 = c) := ⟨_, show _ = _ from rfl⟩
  obtain ⟨d, hd⟩ : ∃ c, Hid ((firstQ (qP P) P.length).2 = c) := ⟨_, show _ = _ from rfl⟩
  rw [show (firstQ (qP P) P.length).1 = c from hc.out, show (firstQ (qP P) P.length).2 = d from hd.out] at HC ⊢
  clear hb hE h
  go_enter Tryz.func34, Tryz.ntmps34
  go_wp2_with fail
  refine HC.out.mono ?_
  rintro e w1 ⟨⟨v, rfl, hv⟩, hb1⟩
  obtain ⟨HV⟩ : Nonempty (Hid (IsErr w1 E v c d ∧ Below w.heap.size w w1)) := ⟨⟨hv, HB.out.trans (hb1.mono HB.out.size)⟩⟩
  clear hv hb1
  go_wp2_with fail
  go_ret
  exact ⟨⟨v, rfl, HV.out.1⟩, HV.out.2⟩
set_option linter.unusedVariables false in
set_option maxRecDepth 100000 in
set_option maxHeartbeats 1000000 in
theorem checkTags_any (p : Option Addr) (T : List Int) (cp : Nat) (E : Nat → Addr) (m : Int) (w : World) (hE : AttrEnv w E m) (h : Ints w p T) (hl : T.length ≤ 1000000) :
    Calls Tryz.prog 36 #[.slice p T.length cp] w fun r w' => (∃ v, r = .returned v ∧ IsErr w' E v (firstQ (qT T) T.length).1 (firstQ (qT T) T.length).2) ∧ Below w.heap.size w w' := by
  have hb := below_alloc w (.cells #[.slice p T.length cp] 22)
  obtain ⟨HC⟩ : Nonempty (Hid (Calls _ _ _ _ _)) := ⟨firstAsk_any T.length _ _ E m (qT T) (w.alloc (.cells #[.slice p T.length cp] 22)) (hE.below hb) (ask_tags p T cp w.heap.size E m _ (hE.below hb) (h.below hb) (box_one _ _ _) hl) hl⟩
  obtain ⟨HB⟩ : Nonempty (Hid (Below _ _ _)) := ⟨hb⟩
  obtain ⟨c, hc⟩ : ∃ c, Hid ((firstQ (qT T) T.length).1 = c) := ⟨_, show _ = _ from rfl⟩
  obtain ⟨d, hd⟩ : ∃ c, Hid ((firstQ (qT T) T.length).2 = c) := ⟨_, show _ = _ from rfl⟩
  rw [show (firstQ (qT T) T.length).1 = c from hc.out, show (firstQ (qT T) T.length).2 = d from hd.out] at HC ⊢
  clear hb hE h
  go_enter Tryz.func36, Tryz.ntmps36
  go_wp2_with fail
  refine HC.out.mono ?_
  rintro e w1 ⟨⟨v, rfl, hv⟩, hb1⟩
  obtain ⟨HV⟩ : Nonempty (Hid (IsErr w1 E v c d ∧ Below w.heap.size w w1)) := ⟨⟨hv, HB.out.trans (hb1.mono HB.out.size)⟩⟩
  clear hv hb1
  go_wp2_with fail
  go_ret
  exact ⟨⟨v, rfl, HV.out.1⟩, HV.out.2⟩

theorem qP_bad (P : List Int) : (fun k => decide (qP P k ≠ 0)) = badP P := by
  funext k
  unfold qP
  cases badP P k <;> rfl
theorem qT_bad (T : List Int) : (fun k => decide (qT T k ≠ 0)) = badT T := by
  funext k
  unfold qT
  cases ho : outB (T.getD k 0) 9999 with
  | true => unfold badT; rw [ho]; rfl
  | false => cases badT T k <;> rfl
/-- the numbers of the first fault, by its parts. -/
theorem fault_parts (A : At) (h1 : fullA A = false) : ((faultA A).1.toNat, (faultA A).2) =
    if 0 < (firstQ (qP A.path) A.path.length).1 then firstQ (qP A.path) A.path.length
    else if numsA A then (2, -1) else firstQ (qT A.tags) A.tags.length := by
  unfold faultA firstQ
  rw [if_neg (by simp [h1]), qP_bad, qT_bad]
  by_cases h2 : firstN (badP A.path) A.path.length < A.path.length
  · have hb := (firstN_spec (badP A.path) A.path.length).2.2 h2
    rw [if_pos h2, if_pos h2]
    simp [qP, hb]
  · rw [if_neg h2, if_neg h2]
    cases h3 : numsA A with
    | true => simp
    | false =>
      by_cases h4 : firstN (badT A.tags) A.tags.length < A.tags.length
      · have hb := (firstN_spec (badT A.tags) A.tags.length).2.2 h4
        simp only [Nat.lt_irrefl, if_false, Bool.false_eq_true, h4, if_true]
        unfold qT
        cases ho : outB (A.tags.getD (firstN (badT A.tags) A.tags.length) 0) 9999 with
        | true => simp
        | false => simp [hb]
      · simp only [Nat.lt_irrefl, if_false, Bool.false_eq_true, h4]
        rfl
end Go.Proofs.YtbfdgflbflajdaaGreatDoor

namespace Go.Proofs.YtbfdgflbflajdaaGreatDoor
open Go.RowKit

/-- numbers written one behind another, a byte between two; a dash where there is none. -/
def joinN (c : UInt8) : List Int → List UInt8
  | [] => [45]
  | x :: r => Lib.itoa x ++ r.flatMap (fun y => c :: Lib.itoa y)
theorem joinN_more (c : UInt8) (L : List Int) (k : Nat) (h0 : 0 < k) (h : k < L.length) : joinN c (L.take (k + 1)) = joinN c (L.take k) ++ [c] ++ Lib.itoa L[k] := by
  cases L with
  | nil => simp at h
  | cons x r =>
    cases k with
    | zero => omega
    | succ j =>
      have hj : j < r.length := by simpa using h
      rw [List.take_succ_cons, List.take_succ_cons]
      simp only [joinN]
      rw [List.take_succ_eq_append_getElem hj, List.flatMap_append]
      simp only [List.flatMap_cons, List.flatMap_nil, List.append_nil, List.append_assoc, List.singleton_append, List.getElem_cons_succ]
theorem aItoa_len (n : Int) (h0 : -9223372036854775807 ≤ n) (h1 : n ≤ 9223372036854775807) : (Lib.itoa n).length ≤ 21 := by
  unfold Lib.itoa
  split
  · have := decDigits_len n.natAbs (by omega)
    simp; omega
  · have := decDigits_len n.toNat (by omega)
    omega
theorem joinN_len (c : UInt8) (L : List Int) (hr : ∀ x ∈ L, -9223372036854775807 ≤ x ∧ x ≤ 9223372036854775807) : (joinN c L).length ≤ 22 * L.length + 1 := by
  cases L with
  | nil => simp [joinN]
  | cons x r =>
    have h0 := aItoa_len x (hr x (by simp)).1 (hr x (by simp)).2
    have h1 : ∀ r : List Int, (∀ x ∈ r, -9223372036854775807 ≤ x ∧ x ≤ 9223372036854775807) → (r.flatMap (fun y => c :: Lib.itoa y)).length ≤ 22 * r.length := by
      intro r
      induction r with
      | nil => intro _; simp
      | cons y r ih =>
        intro hy
        have := ih (fun x hx => hy x (by simp [hx]))
        have h2 := aItoa_len y (hy y (by simp)).1 (hy y (by simp)).2
        simp only [List.flatMap_cons, List.length_append, List.length_cons]
        omega
    have h2 := h1 r (fun y hy => hr y (by simp [hy]))
    simp only [joinN, List.length_append, List.length_cons]
    omega
theorem rDecimal_l (n : Int) (l : List UInt8) (hl : Hid (Lib.itoa n = l)) (h0 : -9223372036854775807 ≤ n) (h1 : n ≤ 9223372036854775807) (w : World) :
    Calls Tryz.prog 57 #[.int .i64 n] w fun e w' => e = .returned (.string ⟨l.toArray⟩) ∧ Below w.heap.size w w' := by
  rw [← hl.out]
  exact rDecimal_any n h0 h1 w

set_option linter.unusedVariables false in
set_option maxRecDepth 100000 in
set_option maxHeartbeats 2000000 in
theorem rList_any (p : Option Addr) (L : List Int) (c : UInt8) (k cap : Nat) (w : World) (h : Ints w p L) (hk : k = L.length) (hl : L.length ≤ 1000) (hr : ∀ x ∈ L, -9223372036854775807 ≤ x ∧ x ≤ 9223372036854775807) :
    Calls Tryz.prog 56 #[.slice p k cap, .string ⟨#[c]⟩] w fun r w' => r = .returned (.string ⟨(joinN c L).toArray⟩) ∧ Below w.heap.size w w' := by
  subst hk
  by_cases h0 : L.length = 0
  · obtain rfl : L = [] := List.eq_nil_of_length_eq_zero h0
    clear h h0 hr
    go_enter Tryz.func56, Tryz.ntmps56
    go_wp2_with fail
    go_ret
    exact ⟨rfl, Below.refl _ _⟩
  · have hz : ((L.length : Int) == 0) = false := by rw [beq_eq_false_iff_ne]; omega
    have hpos : 0 < L.length := by omega
    have q0 : (0 : Int) < L.length := by omega
    obtain ⟨b, o, rfl, x0c⟩ := h 0 hpos
    obtain ⟨HE⟩ : Nonempty (Hid (Ints w (some ⟨b, o, none⟩) L ∧ ∀ x ∈ L, -9223372036854775807 ≤ x ∧ x ≤ 9223372036854775807)) := ⟨⟨h, hr⟩⟩
    obtain ⟨B, hB⟩ : ∃ b, Hid (w.heap.size = b) := ⟨_, show _ = _ from rfl⟩
    obtain ⟨x, hx⟩ : ∃ x, Hid (L[0] = x) := ⟨_, show _ = _ from rfl⟩
    obtain ⟨HXR⟩ : Nonempty (Hid (-9223372036854775807 ≤ x ∧ x ≤ 9223372036854775807)) := ⟨by have := hr L[0] (List.getElem_mem hpos); rw [hx.out] at this; exact this⟩
    rw [show L[0] = x from hx.out] at x0c
    obtain ⟨l0, hl0⟩ : ∃ l, Hid (Lib.itoa x = l) := ⟨_, show _ = _ from rfl⟩
    obtain ⟨HJ⟩ : Nonempty (Hid (joinN c (L.take 1) = l0)) := ⟨by
      show _ = _
      rw [← hl0.out, ← hx.out]
      cases L with
      | nil => simp at hpos
      | cons a r => simp [joinN]⟩
    obtain ⟨lf, hlf⟩ : ∃ l, Hid (joinN c L = l) := ⟨_, show _ = _ from rfl⟩
    rw [show joinN c L = lf from hlf.out]
    clear h hr h0
    rw [show w.heap.size = B from hB.out]
    rw [Nat.add_zero] at x0c
    go_enter Tryz.func56, Tryz.ntmps56
    go_wp2_with fail
    refine (rDecimal_l x l0 hl0 HXR.out.1 HXR.out.2 _).mono ?_
    rintro e w1 ⟨rfl, hb1⟩
    obtain ⟨HB1⟩ : Nonempty (Hid (Below B w w1)) := ⟨by rw [← show w.heap.size = B from hB.out]; exact hb1⟩
    clear hb1 x0c
    go_wp2_with fail
    go_loopw [5, 6] (fun s i wr => ∃ (k : Nat) (l : List UInt8), i = .int .i64 k ∧ s = .string ⟨l.toArray⟩ ∧ Hid (joinN c (L.take k) = l ∧ 1 ≤ k ∧ Below B w wr) ∧ k ≤ L.length) (fun _ i _ => L.length - (intOf i).toNat)
    case atStart => exact ⟨1, l0, rfl, rfl, ⟨HJ.out, Nat.le_refl _, HB1.out⟩, hpos⟩
    case round =>
      clear HJ HB1 hz hpos q0 hl0 HXR hx
      obtain ⟨k, l, rfl, rfl, HK, hkl⟩ := hrel
      by_cases hlt : k < L.length
      · have q3 : (k : Int) < L.length := by omega
        obtain ⟨b', o', he, y0c⟩ := HE.out.1 k hlt
        simp only [Option.some.injEq, Addr.mk.injEq, and_true] at he
        obtain ⟨rfl, rfl⟩ := he
        have hbw : Below w.heap.size w wr := by rw [show w.heap.size = B from hB.out]; exact HK.out.2.2
        have d0 := cell_kept hbw y0c
        obtain ⟨y, hy⟩ : ∃ x, Hid (L[k] = x) := ⟨_, show _ = _ from rfl⟩
        rw [show L[k] = y from hy.out] at d0
        obtain ⟨HYR⟩ : Nonempty (Hid (-9223372036854775807 ≤ y ∧ y ≤ 9223372036854775807)) := ⟨by have := HE.out.2 L[k] (List.getElem_mem hlt); rw [hy.out] at this; exact this⟩
        obtain ⟨ly, hly⟩ : ∃ l, Hid (Lib.itoa y = l) := ⟨_, show _ = _ from rfl⟩
        obtain ⟨m1, hm1⟩ : ∃ m, Hid (l ++ [c] = m) := ⟨_, show _ = _ from rfl⟩
        obtain ⟨m2, hm2⟩ : ∃ m, Hid (m1 ++ ly = m) := ⟨_, show _ = _ from rfl⟩
        have hn1 : l.length ≤ 22022 := by
          have := joinN_len c (L.take k) (fun x hx => HE.out.2 x (List.mem_of_mem_take hx))
          rw [HK.out.1, List.length_take] at this
          omega
        have hn2 : m1.length ≤ 22023 := by rw [← hm1.out]; simp; omega
        have hn3 : ly.length ≤ 21 := by rw [← hly.out]; exact aItoa_len y HYR.out.1 HYR.out.2
        have qa : ∀ w, (Op.stringOp .add ⟨l.toArray⟩ ⟨#[c]⟩).run Tryz.prog w = .ok (.string ⟨m1.toArray⟩) w := fun w => by rw [← hm1.out]; exact run_string_add_lists w l [c] (by omega) (by simp)
        have qb : ∀ w, (Op.stringOp .add ⟨m1.toArray⟩ ⟨ly.toArray⟩).run Tryz.prog w = .ok (.string ⟨m2.toArray⟩) w := fun w => by rw [← hm2.out]; exact run_string_add_lists w m1 ly (by omega) (by omega)
        obtain ⟨HN⟩ : Nonempty (Hid (joinN c (L.take (k + 1)) = m2)) := ⟨by show _ = _; rw [joinN_more c L k HK.out.2.1 hlt, HK.out.1, hy.out, hly.out, hm1.out, hm2.out]⟩
        clear y0c hbw hn1 hn2 hn3
        go_wp2_with fail
        refine (rDecimal_l y ly hly HYR.out.1 HYR.out.2 _).mono ?_
        rintro e w1 ⟨rfl, hb1⟩
        obtain ⟨HB2⟩ : Nonempty (Hid (Below B w w1)) := ⟨HK.out.2.2.trans (hb1.mono (by have := HK.out.2.2.size; rw [hB.out] at this; exact this))⟩
        clear hb1 d0
        go_wp2_with fail
        go_roundw
        case rel => exact ⟨k + 1, m2, by go_num, rfl, ⟨HN.out, by omega, HB2.out⟩, by omega⟩
        case measure => simp [intOf]; omega
      · obtain rfl : k = L.length := by omega
        obtain rfl : l = lf := by rw [← HK.out.1, List.take_length]; exact hlf.out
        go_wp2_with fail
        go_ret
        exact ⟨rfl, HK.out.2.2⟩
end Go.Proofs.YtbfdgflbflajdaaGreatDoor

namespace Go.Proofs.YtbfdgflbflajdaaGreatDoor
open Go.RowKit

/-- an attribute that is right. -/
structure RightA (A : At) : Prop where
  path : A.path.length ≤ 12
  tags : A.tags.length ≤ 8
  sys : ∀ x ∈ A.path, 1 ≤ x ∧ x ≤ 1000
  pref : 0 ≤ A.pref ∧ A.pref ≤ 1000
  med : 0 ≤ A.med ∧ A.med ≤ 1000
  org : 0 ≤ A.org ∧ A.org ≤ 2
  tag : ∀ x ∈ A.tags, 1 ≤ x ∧ x ≤ 9999
  rise : ∀ j (h : j + 1 < A.tags.length), A.tags[j] < A.tags[j + 1]
theorem right_of_fault {A : At} (h : (faultA A).1 ≤ 0) : RightA A := by
  unfold faultA at h
  split at h
  · exact absurd h (by simp)
  rename_i h1
  split at h
  · exact absurd h (by simp)
  rename_i h2
  split at h
  · exact absurd h (by simp)
  rename_i h3
  split at h
  · split at h <;> exact absurd h (by simp)
  rename_i h4
  simp only [fullA, Bool.or_eq_true, decide_eq_true_eq] at h1
  simp only [numsA, Bool.or_eq_true, decide_eq_true_eq] at h3
  have e2 : firstN (badP A.path) A.path.length = A.path.length := by have := (firstN_spec (badP A.path) A.path.length).1; omega
  have e4 : firstN (badT A.tags) A.tags.length = A.tags.length := by have := (firstN_spec (badT A.tags) A.tags.length).1; omega
  have p2 := (firstN_spec (badP A.path) A.path.length).2.1
  have p4 := (firstN_spec (badT A.tags) A.tags.length).2.1
  rw [e2] at p2
  rw [e4] at p4
  refine ⟨by omega, by omega, fun x hx => ?_, by omega, by omega, by omega, fun x hx => ?_, fun j hj => ?_⟩
  · obtain ⟨i, hi, rfl⟩ := List.getElem_of_mem hx
    have := p2 i hi
    unfold badP at this
    rw [getD_at hi] at this
    simp [outB] at this
    omega
  · obtain ⟨i, hi, rfl⟩ := List.getElem_of_mem hx
    have := p4 i hi
    unfold badT at this
    rw [getD_at hi] at this
    simp [outB] at this
    omega
  · have := p4 (j + 1) hj
    unfold badT at this
    rw [getD_at hj, show j + 1 - 1 = j from rfl, getD_at (show j < A.tags.length by omega)] at this
    simp [outB] at this
    omega
theorem fault_of_right {A : At} (h : RightA A) : faultA A = (0, -1) := by
  obtain ⟨h1, h2, h3, h4, h5, h6, h7, h8⟩ := h
  have n1 : ¬ fullA A = true := by simp only [fullA, Bool.or_eq_true, decide_eq_true_eq]; omega
  have n3 : ¬ numsA A = true := by simp only [numsA, Bool.or_eq_true, decide_eq_true_eq]; omega
  have n2 : ¬ firstN (badP A.path) A.path.length < A.path.length := by
    intro hl
    have := (firstN_spec (badP A.path) A.path.length).2.2 hl
    have hx := h3 _ (List.getElem_mem hl)
    generalize firstN (badP A.path) A.path.length = k at *
    unfold badP at this
    rw [getD_at hl] at this
    simp [outB] at this
    omega
  have n4 : ¬ firstN (badT A.tags) A.tags.length < A.tags.length := by
    intro hl
    have hb := (firstN_spec (badT A.tags) A.tags.length).2.2 hl
    have hx := h7 _ (List.getElem_mem hl)
    generalize firstN (badT A.tags) A.tags.length = k at *
    unfold badT at hb
    rw [getD_at hl] at hb
    cases k with
    | zero => simp [outB] at hb; omega
    | succ j =>
      rw [show j + 1 - 1 = j from rfl, getD_at (show j < A.tags.length by omega)] at hb
      have := h8 j hl
      simp [outB] at hb
      omega
  unfold faultA
  rw [if_neg n1, if_neg n2, if_neg n3, if_neg n4]
/-- the first fault's number is 0, or above it. -/
theorem fault_sign (A : At) : (faultA A).1 = 0 ∨ 0 < (faultA A).1 := by
  unfold faultA
  repeat' split
  all_goals simp

/-- the text of an attribute that is right. -/
def textA (A : At) : List UInt8 := joinN 45 A.path ++ [32] ++ Lib.itoa A.pref ++ [32] ++ Lib.itoa A.med ++ [32] ++ Lib.itoa A.org ++ [32] ++ joinN 44 A.tags

/-- an argument's copy, while a function runs. -/
def AB (w wr : World) (B : Nat) (va : Array Value) : Prop := wr.heap[B]? = some (.cells va 24 (0, 0)) ∧ Below B w wr
theorem AB.on {w wr w' : World} {B : Nat} {va : Array Value} (h : AB w wr B va) (hb : Below wr.heap.size wr w') : AB w w' B va := by
  obtain ⟨a, c⟩ := h
  have l1 := (Array.getElem?_eq_some_iff.1 a).1
  exact ⟨by rw [hb.block B l1]; exact a, c.trans (hb.mono (Nat.le_of_lt l1))⟩
theorem ab_start (w : World) (va : Array Value) : AB w (w.alloc (.cells va 24)) w.heap.size va := ⟨Go.heap_alloc_new w _, below_alloc _ _⟩
theorem AB.arg {w wr : World} {B : Nat} {a b c d e : Value} (h : AB w wr B #[a, b, c, d, e]) : wr.cell? ⟨B, 0, none⟩ = some a ∧ wr.cell? ⟨B, 1, none⟩ = some b ∧ wr.cell? ⟨B, 2, none⟩ = some c ∧ wr.cell? ⟨B, 3, none⟩ = some d ∧ wr.cell? ⟨B, 4, none⟩ = some e := by
  refine ⟨?_, ?_, ?_, ?_, ?_⟩ <;> simp [World.cell?, h.1]

theorem field_code (f0 f1 : Int) (w : World) : (Instr.field 43 (.agg #[.int .i64 f0, .int .i64 f1]) 0).run Tryz.prog w = .ok (.int .i64 f0) w := by kernel_rfl

set_option linter.unusedVariables false in
set_option maxRecDepth 100000 in
set_option maxHeartbeats 2000000 in
theorem rAttrText_bad (v : Value) (A : At) (w : World) (h : IsAttr w v A) (h1 : A.path.length ≤ 1000000) (h2 : A.tags.length ≤ 1000000) (hf : 0 < (faultA A).1) :
    Calls Tryz.prog 20 #[v] w fun r w' => r = .returned (.string ⟨#[]⟩) ∧ Below w.heap.size w w' := by
  obtain ⟨f0, hf0⟩ : ∃ x, Hid ((faultA A).1 = x) := ⟨_, show _ = _ from rfl⟩
  obtain ⟨f1, hf1⟩ : ∃ x, Hid ((faultA A).2 = x) := ⟨_, show _ = _ from rfl⟩
  have HF : Hid (faultA A = (f0, f1)) := by show _ = _; rw [← hf0.out, ← hf1.out]
  have hpos : 0 < f0 := by rw [← hf0.out]; exact hf
  have HC : Hid (∀ w', Below w.heap.size w w' → Calls _ _ _ _ _) := fun w' hb => rAttrFault_any v A w' (h.below hb) h1 h2 f0 f1 HF
  obtain ⟨p, cp, q, cq, rfl, i1, i2⟩ := h
  obtain ⟨P, f, m, o, T⟩ := A
  simp only at *
  clear i1 i2 hf HF hf0 hf1
  go_enter Tryz.func20, Tryz.ntmps20
  go_wp2_with fail
  refine (HC.out _ (below_alloc _ _)).mono ?_
  rintro e w1 ⟨rfl, hb1⟩
  obtain ⟨HB1⟩ : Nonempty (Hid (Below w.heap.size w w1)) := ⟨(below_alloc _ _).trans (hb1.mono (below_alloc _ _).size)⟩
  clear hb1 HC
  have hfd := field_code f0 f1
  go_wp2_with fail
  go_ret
  exact ⟨rfl, HB1.out⟩

set_option linter.unusedSimpArgs false in
set_option linter.unusedVariables false in
set_option maxRecDepth 100000 in
set_option maxHeartbeats 4000000 in
theorem rAttrText_right (v : Value) (A : At) (w : World) (h : IsAttr w v A) (hA : RightA A) :
    Calls Tryz.prog 20 #[v] w fun r w' => r = .returned (.string ⟨(textA A).toArray⟩) ∧ Below w.heap.size w w' := by
  have hs := h
  obtain ⟨p, cp, q, cq, rfl, i1, i2⟩ := h
  have HC : Hid (∀ w', Below w.heap.size w w' → Calls _ _ _ _ _) := fun w' hb => rAttrFault_any _ A w' (hs.below hb) (by have := hA.path; omega) (by have := hA.tags; omega) 0 (-1) (fault_of_right hA)
  have rp : ∀ x ∈ A.path, -9223372036854775807 ≤ x ∧ x ≤ 9223372036854775807 := fun x hx => by have := hA.sys x hx; omega
  have rt : ∀ x ∈ A.tags, -9223372036854775807 ≤ x ∧ x ≤ 9223372036854775807 := fun x hx => by have := hA.tag x hx; omega
  obtain ⟨t0, ht0⟩ : ∃ l, Hid (joinN 45 A.path = l) := ⟨_, show _ = _ from rfl⟩
  obtain ⟨t1, ht1⟩ : ∃ l, Hid (Lib.itoa A.pref = l) := ⟨_, show _ = _ from rfl⟩
  obtain ⟨t2, ht2⟩ : ∃ l, Hid (Lib.itoa A.med = l) := ⟨_, show _ = _ from rfl⟩
  obtain ⟨t3, ht3⟩ : ∃ l, Hid (Lib.itoa A.org = l) := ⟨_, show _ = _ from rfl⟩
  obtain ⟨t4, ht4⟩ : ∃ l, Hid (joinN 44 A.tags = l) := ⟨_, show _ = _ from rfl⟩
  have HP : Hid (∀ w', Below w.heap.size w w' → Calls Tryz.prog 56 #[.slice p A.path.length cp, .string ⟨#[45]⟩] w' fun r w'' => r = .returned (.string ⟨t0.toArray⟩) ∧ Below w'.heap.size w' w'') := fun w' hb => by
    rw [← ht0.out]; exact rList_any p A.path 45 _ cp w' (i1.below hb) rfl (by have := hA.path; omega) rp
  have HT : Hid (∀ w', Below w.heap.size w w' → Calls Tryz.prog 56 #[.slice q A.tags.length cq, .string ⟨#[44]⟩] w' fun r w'' => r = .returned (.string ⟨t4.toArray⟩) ∧ Below w'.heap.size w' w'') := fun w' hb => by
    rw [← ht4.out]; exact rList_any q A.tags 44 _ cq w' (i2.below hb) rfl (by have := hA.tags; omega) rt
  have H1 : Hid (∀ w', Calls _ _ _ _ _) := fun w' => rDecimal_l A.pref t1 ht1 (by have := hA.pref; omega) (by have := hA.pref; omega) w'
  have H2 : Hid (∀ w', Calls _ _ _ _ _) := fun w' => rDecimal_l A.med t2 ht2 (by have := hA.med; omega) (by have := hA.med; omega) w'
  have H3 : Hid (∀ w', Calls _ _ _ _ _) := fun w' => rDecimal_l A.org t3 ht3 (by have := hA.org; omega) (by have := hA.org; omega) w'
  have n0 : t0.length ≤ 300 := by rw [← ht0.out]; have := joinN_len 45 A.path rp; have := hA.path; omega
  have n4 : t4.length ≤ 300 := by rw [← ht4.out]; have := joinN_len 44 A.tags rt; have := hA.tags; omega
  have n1 : t1.length ≤ 21 := by rw [← ht1.out]; exact aItoa_len _ (by have := hA.pref; omega) (by have := hA.pref; omega)
  have n2 : t2.length ≤ 21 := by rw [← ht2.out]; exact aItoa_len _ (by have := hA.med; omega) (by have := hA.med; omega)
  have n3 : t3.length ≤ 21 := by rw [← ht3.out]; exact aItoa_len _ (by have := hA.org; omega) (by have := hA.org; omega)
  obtain ⟨s1, hs1⟩ : ∃ l, Hid (t0 ++ [32] = l) := ⟨_, show _ = _ from rfl⟩
  obtain ⟨s2, hs2⟩ : ∃ l, Hid (s1 ++ t1 = l) := ⟨_, show _ = _ from rfl⟩
  obtain ⟨s3, hs3⟩ : ∃ l, Hid (s2 ++ [32] = l) := ⟨_, show _ = _ from rfl⟩
  obtain ⟨s4, hs4⟩ : ∃ l, Hid (s3 ++ t2 = l) := ⟨_, show _ = _ from rfl⟩
  obtain ⟨s5, hs5⟩ : ∃ l, Hid (s4 ++ [32] = l) := ⟨_, show _ = _ from rfl⟩
  obtain ⟨s6, hs6⟩ : ∃ l, Hid (s5 ++ t3 = l) := ⟨_, show _ = _ from rfl⟩
  obtain ⟨s7, hs7⟩ : ∃ l, Hid (s6 ++ [32] = l) := ⟨_, show _ = _ from rfl⟩
  obtain ⟨s8, hs8⟩ : ∃ l, Hid (s7 ++ t4 = l) := ⟨_, show _ = _ from rfl⟩
  have e8 : textA A = s8 := by
    unfold textA
    rw [ht0.out, ht1.out, ht2.out, ht3.out, ht4.out, hs1.out, hs2.out, hs3.out, hs4.out, hs5.out, hs6.out, hs7.out, hs8.out]
  rw [e8]
  have m1 : s1.length ≤ 301 := by rw [← hs1.out]; simp; omega
  have m2 : s2.length ≤ 322 := by rw [← hs2.out]; simp; omega
  have m3 : s3.length ≤ 323 := by rw [← hs3.out]; simp; omega
  have m4 : s4.length ≤ 344 := by rw [← hs4.out]; simp; omega
  have m5 : s5.length ≤ 345 := by rw [← hs5.out]; simp; omega
  have m6 : s6.length ≤ 366 := by rw [← hs6.out]; simp; omega
  have m7 : s7.length ≤ 367 := by rw [← hs7.out]; simp; omega
  have qa1 : ∀ w, (Op.stringOp .add ⟨t0.toArray⟩ ⟨#[32]⟩).run Tryz.prog w = .ok (.string ⟨s1.toArray⟩) w := fun w => by rw [← hs1.out]; exact run_string_add_lists w t0 [32] (by omega) (by simp)
  have qa2 : ∀ w, (Op.stringOp .add ⟨s1.toArray⟩ ⟨t1.toArray⟩).run Tryz.prog w = .ok (.string ⟨s2.toArray⟩) w := fun w => by rw [← hs2.out]; exact run_string_add_lists w s1 t1 (by omega) (by omega)
  have qa3 : ∀ w, (Op.stringOp .add ⟨s2.toArray⟩ ⟨#[32]⟩).run Tryz.prog w = .ok (.string ⟨s3.toArray⟩) w := fun w => by rw [← hs3.out]; exact run_string_add_lists w s2 [32] (by omega) (by simp)
  have qa4 : ∀ w, (Op.stringOp .add ⟨s3.toArray⟩ ⟨t2.toArray⟩).run Tryz.prog w = .ok (.string ⟨s4.toArray⟩) w := fun w => by rw [← hs4.out]; exact run_string_add_lists w s3 t2 (by omega) (by omega)
  have qa5 : ∀ w, (Op.stringOp .add ⟨s4.toArray⟩ ⟨#[32]⟩).run Tryz.prog w = .ok (.string ⟨s5.toArray⟩) w := fun w => by rw [← hs5.out]; exact run_string_add_lists w s4 [32] (by omega) (by simp)
  have qa6 : ∀ w, (Op.stringOp .add ⟨s5.toArray⟩ ⟨t3.toArray⟩).run Tryz.prog w = .ok (.string ⟨s6.toArray⟩) w := fun w => by rw [← hs6.out]; exact run_string_add_lists w s5 t3 (by omega) (by omega)
  have qa7 : ∀ w, (Op.stringOp .add ⟨s6.toArray⟩ ⟨#[32]⟩).run Tryz.prog w = .ok (.string ⟨s7.toArray⟩) w := fun w => by rw [← hs7.out]; exact run_string_add_lists w s6 [32] (by omega) (by simp)
  have qa8 : ∀ w, (Op.stringOp .add ⟨s7.toArray⟩ ⟨t4.toArray⟩).run Tryz.prog w = .ok (.string ⟨s8.toArray⟩) w := fun w => by rw [← hs8.out]; exact run_string_add_lists w s7 t4 (by omega) (by omega)
  obtain ⟨HS⟩ : Nonempty (Hid (AB w _ _ _)) := ⟨ab_start w #[.slice p A.path.length cp, .int .i64 A.pref, .int .i64 A.med, .int .i64 A.org, .slice q A.tags.length cq]⟩
  obtain ⟨P, f, m, o, T⟩ := A
  simp only at *
  have hfd := field_code 0 (-1)
  clear n0 n1 n2 n3 n4 m1 m2 m3 m4 m5 m6 m7 e8 rp rt hA hs i1 i2
  go_enter Tryz.func20, Tryz.ntmps20
  go_wp2_with fail
  refine (HC.out _ (below_alloc _ _)).mono ?_
  rintro e w1 ⟨rfl, hb1⟩
  obtain ⟨HS1⟩ : Nonempty (Hid (AB w w1 w.heap.size _)) := ⟨HS.out.on hb1⟩
  obtain ⟨c0, c1, c2, c3, c4⟩ := HS1.out.arg
  clear hb1 HC HS
  -- the text's parts
  obtain ⟨HD⟩ : Nonempty (Hid (AB w w1.drew w.heap.size _)) := ⟨HS1.out.on (Below.refl _ _).drew⟩
  go_wp2_with fail
  refine wp_region_noPanic ?_
  refine wp_region_held_drew (S := (fun w' => w'.cell? ⟨w.heap.size, 0, none⟩ = some (.slice p P.length cp) ∧ w'.cell? ⟨w.heap.size, 1, none⟩ = some (.int .i64 f) ∧ w'.cell? ⟨w.heap.size, 2, none⟩ = some (.int .i64 m) ∧ w'.cell? ⟨w.heap.size, 3, none⟩ = some (.int .i64 o) ∧ w'.cell? ⟨w.heap.size, 4, none⟩ = some (.slice q T.length cq))) (by kernel_rfl) ?_ (fun hHeld => ?_)
  · exact HD.out.arg
  refine wpAnyH_take (i := 0) (v := ?_) rfl (by kernel_rfl) (by kernel_rfl) (by kernel_rfl) (fun _ _ _ h => h) (Or.inl ⟨by rfl, ?_⟩) (by assumption) ?_
  rotate_left
  · (intro w hSw; (try dsimp only at hSw); go_simp; try (with_reducible rfl))
  try simp only [Act.put, List.setIfInBounds_toArray, List.set_cons_zero, List.set_cons_succ, List.getElem_toArray, List.getElem_cons_zero, List.getElem_cons_succ]
  refine wpAnyH_take (i := 1) (v := ?_) rfl (by kernel_rfl) (by kernel_rfl) (by kernel_rfl) (fun _ _ _ h => h) (Or.inl ⟨by rfl, ?_⟩) (by assumption) ?_
  rotate_left
  · (intro w hSw; (try dsimp only at hSw); go_simp; try (with_reducible rfl))
  try simp only [Act.put, List.setIfInBounds_toArray, List.set_cons_zero, List.set_cons_succ, List.getElem_toArray, List.getElem_cons_zero, List.getElem_cons_succ]
  refine wpAnyH_take (i := 4) (v := ?_) rfl (by kernel_rfl) (by kernel_rfl) (by kernel_rfl) (fun _ _ _ h => h) (Or.inl ⟨by rfl, ?_⟩) (by assumption) ?_
  rotate_left
  · (intro w hSw; (try dsimp only at hSw); go_simp; try (with_reducible rfl))
  try simp only [Act.put, List.setIfInBounds_toArray, List.set_cons_zero, List.set_cons_succ, List.getElem_toArray, List.getElem_cons_zero, List.getElem_cons_succ]
  refine wpAnyH_take (i := 5) (v := ?_) rfl (by kernel_rfl) (by kernel_rfl) (by kernel_rfl) (fun _ _ _ h => h) (Or.inl ⟨by rfl, ?_⟩) (by assumption) ?_
  rotate_left
  · (intro w hSw; (try dsimp only at hSw); go_simp; try (with_reducible rfl))
  try simp only [Act.put, List.setIfInBounds_toArray, List.set_cons_zero, List.set_cons_succ, List.getElem_toArray, List.getElem_cons_zero, List.getElem_cons_succ]
  refine wpAnyH_take (i := 9) (v := ?_) rfl (by kernel_rfl) (by kernel_rfl) (by kernel_rfl) (fun _ _ _ h => h) (Or.inl ⟨by rfl, ?_⟩) (by assumption) ?_
  rotate_left
  · (intro w hSw; (try dsimp only at hSw); go_simp; try (with_reducible rfl))
  try simp only [Act.put, List.setIfInBounds_toArray, List.set_cons_zero, List.set_cons_succ, List.getElem_toArray, List.getElem_cons_zero, List.getElem_cons_succ]
  refine wpAnyH_take (i := 10) (v := ?_) rfl (by kernel_rfl) (by kernel_rfl) (by kernel_rfl) (fun _ _ _ h => h) (Or.inl ⟨by rfl, ?_⟩) (by assumption) ?_
  rotate_left
  · (intro w hSw; (try dsimp only at hSw); go_simp; try (with_reducible rfl))
  try simp only [Act.put, List.setIfInBounds_toArray, List.set_cons_zero, List.set_cons_succ, List.getElem_toArray, List.getElem_cons_zero, List.getElem_cons_succ]
  refine wpAnyH_take (i := 14) (v := ?_) rfl (by kernel_rfl) (by kernel_rfl) (by kernel_rfl) (fun _ _ _ h => h) (Or.inl ⟨by rfl, ?_⟩) (by assumption) ?_
  rotate_left
  · (intro w hSw; (try dsimp only at hSw); go_simp; try (with_reducible rfl))
  try simp only [Act.put, List.setIfInBounds_toArray, List.set_cons_zero, List.set_cons_succ, List.getElem_toArray, List.getElem_cons_zero, List.getElem_cons_succ]
  refine wpAnyH_take (i := 15) (v := ?_) rfl (by kernel_rfl) (by kernel_rfl) (by kernel_rfl) (fun _ _ _ h => h) (Or.inl ⟨by rfl, ?_⟩) (by assumption) ?_
  rotate_left
  · (intro w hSw; (try dsimp only at hSw); go_simp; try (with_reducible rfl))
  try simp only [Act.put, List.setIfInBounds_toArray, List.set_cons_zero, List.set_cons_succ, List.getElem_toArray, List.getElem_cons_zero, List.getElem_cons_succ]
  refine wpAnyH_take (i := 19) (v := ?_) rfl (by kernel_rfl) (by kernel_rfl) (by kernel_rfl) (fun _ _ _ h => h) (Or.inl ⟨by rfl, ?_⟩) (by assumption) ?_
  rotate_left
  · (intro w hSw; (try dsimp only at hSw); go_simp; try (with_reducible rfl))
  try simp only [Act.put, List.setIfInBounds_toArray, List.set_cons_zero, List.set_cons_succ, List.getElem_toArray, List.getElem_cons_zero, List.getElem_cons_succ]
  refine wpAnyH_take (i := 20) (v := ?_) rfl (by kernel_rfl) (by kernel_rfl) (by kernel_rfl) (fun _ _ _ h => h) (Or.inl ⟨by rfl, ?_⟩) (by assumption) ?_
  rotate_left
  · (intro w hSw; (try dsimp only at hSw); go_simp; try (with_reducible rfl))
  try simp only [Act.put, List.setIfInBounds_toArray, List.set_cons_zero, List.set_cons_succ, List.getElem_toArray, List.getElem_cons_zero, List.getElem_cons_succ]
  refine wpAnyH_ready (rs := [2]) (by kernel_rfl) (by simp) ?_
  refine AllReadyH.cons rfl (fun K hK => ?_) AllReadyH.nil
  go_simp
  refine (HP.out _ HD.out.2).mono ?_
  rintro e w2 ⟨rfl, hb1⟩
  obtain ⟨HS2⟩ : Nonempty (Hid (AB w w2 w.heap.size _)) := ⟨HD.out.on hb1⟩
  clear hb1
  refine hK.out _ _ ?_ (fun hHeld => ?_)
  · exact HS2.out.arg
  clear hK K
  try simp only [Act.put, List.setIfInBounds_toArray, List.set_cons_zero, List.set_cons_succ, List.getElem_toArray, List.getElem_cons_zero, List.getElem_cons_succ]
  refine wpAnyH_take (i := 3) (v := ?_) rfl (by kernel_rfl) (by kernel_rfl) (by kernel_rfl) (fun _ _ _ h => h) (Or.inl ⟨by rfl, ?_⟩) (by assumption) ?_
  rotate_left
  · (intro w hSw; (try dsimp only at hSw); go_simp; try (with_reducible rfl))
  try simp only [Act.put, List.setIfInBounds_toArray, List.set_cons_zero, List.set_cons_succ, List.getElem_toArray, List.getElem_cons_zero, List.getElem_cons_succ]
  refine wpAnyH_ready (rs := [6]) (by kernel_rfl) (by simp) ?_
  refine AllReadyH.cons rfl (fun K hK => ?_) AllReadyH.nil
  go_simp
  refine (H1.out _).mono ?_
  rintro e w3 ⟨rfl, hb1⟩
  obtain ⟨HS3⟩ : Nonempty (Hid (AB w w3 w.heap.size _)) := ⟨HS2.out.on hb1⟩
  clear hb1
  refine hK.out _ _ ?_ (fun hHeld => ?_)
  · exact HS3.out.arg
  clear hK K
  try simp only [Act.put, List.setIfInBounds_toArray, List.set_cons_zero, List.set_cons_succ, List.getElem_toArray, List.getElem_cons_zero, List.getElem_cons_succ]
  refine wpAnyH_take (i := 7) (v := ?_) rfl (by kernel_rfl) (by kernel_rfl) (by kernel_rfl) (fun _ _ _ h => h) (Or.inl ⟨by rfl, ?_⟩) (by assumption) ?_
  rotate_left
  · (intro w hSw; (try dsimp only at hSw); go_simp; try (with_reducible rfl))
  try simp only [Act.put, List.setIfInBounds_toArray, List.set_cons_zero, List.set_cons_succ, List.getElem_toArray, List.getElem_cons_zero, List.getElem_cons_succ]
  refine wpAnyH_take (i := 8) (v := ?_) rfl (by kernel_rfl) (by kernel_rfl) (by kernel_rfl) (fun _ _ _ h => h) (Or.inl ⟨by rfl, ?_⟩) (by assumption) ?_
  rotate_left
  · (intro w hSw; (try dsimp only at hSw); go_simp; try (with_reducible rfl))
  try simp only [Act.put, List.setIfInBounds_toArray, List.set_cons_zero, List.set_cons_succ, List.getElem_toArray, List.getElem_cons_zero, List.getElem_cons_succ]
  refine wpAnyH_ready (rs := [11]) (by kernel_rfl) (by simp) ?_
  refine AllReadyH.cons rfl (fun K hK => ?_) AllReadyH.nil
  go_simp
  refine (H2.out _).mono ?_
  rintro e w4 ⟨rfl, hb1⟩
  obtain ⟨HS4⟩ : Nonempty (Hid (AB w w4 w.heap.size _)) := ⟨HS3.out.on hb1⟩
  clear hb1
  refine hK.out _ _ ?_ (fun hHeld => ?_)
  · exact HS4.out.arg
  clear hK K
  try simp only [Act.put, List.setIfInBounds_toArray, List.set_cons_zero, List.set_cons_succ, List.getElem_toArray, List.getElem_cons_zero, List.getElem_cons_succ]
  refine wpAnyH_take (i := 12) (v := ?_) rfl (by kernel_rfl) (by kernel_rfl) (by kernel_rfl) (fun _ _ _ h => h) (Or.inl ⟨by rfl, ?_⟩) (by assumption) ?_
  rotate_left
  · (intro w hSw; (try dsimp only at hSw); go_simp; try (with_reducible rfl))
  try simp only [Act.put, List.setIfInBounds_toArray, List.set_cons_zero, List.set_cons_succ, List.getElem_toArray, List.getElem_cons_zero, List.getElem_cons_succ]
  refine wpAnyH_take (i := 13) (v := ?_) rfl (by kernel_rfl) (by kernel_rfl) (by kernel_rfl) (fun _ _ _ h => h) (Or.inl ⟨by rfl, ?_⟩) (by assumption) ?_
  rotate_left
  · (intro w hSw; (try dsimp only at hSw); go_simp; try (with_reducible rfl))
  try simp only [Act.put, List.setIfInBounds_toArray, List.set_cons_zero, List.set_cons_succ, List.getElem_toArray, List.getElem_cons_zero, List.getElem_cons_succ]
  refine wpAnyH_ready (rs := [16]) (by kernel_rfl) (by simp) ?_
  refine AllReadyH.cons rfl (fun K hK => ?_) AllReadyH.nil
  go_simp
  refine (H3.out _).mono ?_
  rintro e w5 ⟨rfl, hb1⟩
  obtain ⟨HS5⟩ : Nonempty (Hid (AB w w5 w.heap.size _)) := ⟨HS4.out.on hb1⟩
  clear hb1
  refine hK.out _ _ ?_ (fun hHeld => ?_)
  · exact HS5.out.arg
  clear hK K
  try simp only [Act.put, List.setIfInBounds_toArray, List.set_cons_zero, List.set_cons_succ, List.getElem_toArray, List.getElem_cons_zero, List.getElem_cons_succ]
  refine wpAnyH_take (i := 17) (v := ?_) rfl (by kernel_rfl) (by kernel_rfl) (by kernel_rfl) (fun _ _ _ h => h) (Or.inl ⟨by rfl, ?_⟩) (by assumption) ?_
  rotate_left
  · (intro w hSw; (try dsimp only at hSw); go_simp; try (with_reducible rfl))
  try simp only [Act.put, List.setIfInBounds_toArray, List.set_cons_zero, List.set_cons_succ, List.getElem_toArray, List.getElem_cons_zero, List.getElem_cons_succ]
  refine wpAnyH_take (i := 18) (v := ?_) rfl (by kernel_rfl) (by kernel_rfl) (by kernel_rfl) (fun _ _ _ h => h) (Or.inl ⟨by rfl, ?_⟩) (by assumption) ?_
  rotate_left
  · (intro w hSw; (try dsimp only at hSw); go_simp; try (with_reducible rfl))
  try simp only [Act.put, List.setIfInBounds_toArray, List.set_cons_zero, List.set_cons_succ, List.getElem_toArray, List.getElem_cons_zero, List.getElem_cons_succ]
  refine wpAnyH_ready (rs := [21]) (by kernel_rfl) (by simp) ?_
  refine AllReadyH.cons rfl (fun K hK => ?_) AllReadyH.nil
  go_simp
  refine (HT.out _ HS5.out.2).mono ?_
  rintro e w6 ⟨rfl, hb1⟩
  obtain ⟨HS6⟩ : Nonempty (Hid (AB w w6 w.heap.size _)) := ⟨HS5.out.on hb1⟩
  clear hb1
  refine hK.out _ _ ?_ (fun hHeld => ?_)
  · exact HS6.out.arg
  clear hK K
  try simp only [Act.put, List.setIfInBounds_toArray, List.set_cons_zero, List.set_cons_succ, List.getElem_toArray, List.getElem_cons_zero, List.getElem_cons_succ]
  refine wpAnyH_take (i := 22) (v := ?_) rfl (by kernel_rfl) (by kernel_rfl) (by kernel_rfl) (fun _ _ _ h => h) (Or.inl ⟨by rfl, ?_⟩) (by assumption) ?_
  rotate_left
  · (intro w hSw; (try dsimp only at hSw); go_simp; try (with_reducible rfl))
  try simp only [Act.put, List.setIfInBounds_toArray, List.set_cons_zero, List.set_cons_succ, List.getElem_toArray, List.getElem_cons_zero, List.getElem_cons_succ]
  refine wpAnyH_take (i := 23) (v := ?_) rfl (by kernel_rfl) (by kernel_rfl) (by kernel_rfl) (fun _ _ _ h => h) (Or.inl ⟨by rfl, ?_⟩) (by assumption) ?_
  rotate_left
  · (intro w hSw; (try dsimp only at hSw); go_simp; try (with_reducible rfl))
  try simp only [Act.put, List.setIfInBounds_toArray, List.set_cons_zero, List.set_cons_succ, List.getElem_toArray, List.getElem_cons_zero, List.getElem_cons_succ]
  refine wpAnyH_done (by kernel_rfl) ?_ _
  refine NoPanic.normal ?_
  clear hHeld c0 c1 c2 c3 c4
  go_wp2_with fail
  go_ret
  exact ⟨rfl, HS6.out.2⟩
end Go.Proofs.YtbfdgflbflajdaaGreatDoor

namespace Go.Proofs.YtbfdgflbflajdaaGreatDoor
open Go.RowKit

theorem ev_ne (E : Nat → Addr) (c : Nat) : ∃ a, ev E (c + 1) = .iface 224 (.pointer (some a)) := ⟨_, rfl⟩
theorem inB3_nums (A : At) : numsA A = (!(inB3 A.pref 0 1000) || (!(inB3 A.med 0 1000) || !(inB3 A.org 0 2))) := by
  unfold numsA inB3
  simp only [Bool.not_and, ← decide_not, Int.not_le, Bool.or_assoc]
theorem AB.keep {w wr w' : World} {B : Nat} {va : Array Value} (h : AB w wr B va) (hb : Below wr.heap.size wr w') : AB w w' B va := h.on hb

set_option linter.unusedVariables false in
set_option maxRecDepth 100000 in
set_option maxHeartbeats 4000000 in
theorem aCheck_any (v : Value) (A : At) (E : Nat → Addr) (m : Int) (w : World) (hE : AttrEnv w E m) (h : IsAttr w v A) (h1 : A.path.length ≤ 1000000) (h2 : A.tags.length ≤ 1000000) :
    Calls Tryz.prog 8 #[v] w fun r w' => (∃ v', r = .returned v' ∧ IsErr w' E v' (faultA A).1.toNat (faultA A).2) ∧ Below w.heap.size w w' := by
  cases hf : fullA A with
  | true =>
    have e1 : faultA A = (7, -1) := by unfold faultA; rw [if_pos hf]
    rw [e1]
    have eb := cell_kept (below_alloc w (.cells #[] 24)) hE.full
    obtain ⟨p, cp, q, cq, rfl, i1, i2⟩ := h
    obtain ⟨P, f, n, o, T⟩ := A
    simp only at *
    have ef := fun o => cell_kept (below_alloc w o) hE.full
    clear e1 hE i1 i2 eb
    by_cases g1 : 12 < P.length
    · have g1' : decide (12 < (P.length : Int)) = true := decide_eq_true (by omega)
      go_enter Tryz.func8, Tryz.ntmps8
      go_wp2_with fail
      have ef' := ef (.cells #[.slice p P.length cp, .int .i64 f, .int .i64 n, .int .i64 o, .slice q T.length cq] 24)
      go_wp2_with fail
      go_ret
      exact ⟨⟨_, rfl, .inl ⟨rfl, rfl⟩⟩, below_alloc _ _⟩
    · have g1' : decide (12 < (P.length : Int)) = false := decide_eq_false (by omega)
      have g2' : decide (8 < (T.length : Int)) = true := by
        simp only [fullA, Bool.or_eq_true, decide_eq_true_eq] at hf
        exact decide_eq_true (by omega)
      go_enter Tryz.func8, Tryz.ntmps8
      go_wp2_with fail
      have ef' := ef (.cells #[.slice p P.length cp, .int .i64 f, .int .i64 n, .int .i64 o, .slice q T.length cq] 24)
      go_wp2_with fail
      go_ret
      exact ⟨⟨_, rfl, .inl ⟨rfl, rfl⟩⟩, below_alloc _ _⟩
  | false =>
    have hp := fault_parts A hf
    have hn := inB3_nums A
    obtain ⟨c0, hc0⟩ : ∃ c, Hid ((faultA A).1.toNat = c) := ⟨_, show _ = _ from rfl⟩
    obtain ⟨d0, hd0⟩ : ∃ c, Hid ((faultA A).2 = c) := ⟨_, show _ = _ from rfl⟩
    rw [show (faultA A).1.toNat = c0 from hc0.out, show (faultA A).2 = d0 from hd0.out] at hp ⊢
    obtain ⟨p, cp, q, cq, rfl, i1, i2⟩ := h
    obtain ⟨P, f, n, o, T⟩ := A
    simp only at *
    have HCP : Hid (∀ w', Below w.heap.size w w' → Calls _ _ _ _ _) := fun w' hb => checkPath_any p P cp E m w' (hE.below hb) (i1.below hb) h1
    have HCT : Hid (∀ w', Below w.heap.size w w' → Calls _ _ _ _ _) := fun w' hb => checkTags_any q T cq E m w' (hE.below hb) (i2.below hb) h2
    obtain ⟨c1, hc1⟩ : ∃ c, Hid (firstQ (qP P) P.length = c) := ⟨_, show _ = _ from rfl⟩
    obtain ⟨c2, hc2⟩ : ∃ c, Hid (firstQ (qT T) T.length = c) := ⟨_, show _ = _ from rfl⟩
    rw [show firstQ (qP P) P.length = c1 from hc1.out] at hp HCP
    rw [show firstQ (qT T) T.length = c2 from hc2.out] at hp HCT
    obtain ⟨c1, d1⟩ := c1
    obtain ⟨c2, d2⟩ := c2
    simp only at *
    have g1' : decide (12 < (P.length : Int)) = false := by
      simp only [fullA, Bool.or_eq_false_iff, decide_eq_false_iff_not] at hf
      exact decide_eq_false (by omega)
    have g2' : decide (8 < (T.length : Int)) = false := by
      simp only [fullA, Bool.or_eq_false_iff, decide_eq_false_iff_not] at hf
      exact decide_eq_false (by omega)
    have HE : Hid (∀ w', Below w.heap.size w w' → w'.cell? ⟨1, 0, none⟩ = some (.iface 224 (.pointer (some (E 1))))) := fun w' hb => cell_kept hb hE.bound
    obtain ⟨HP⟩ : Nonempty (Hid (_ = _)) := ⟨hp⟩
    obtain ⟨HNU⟩ : Nonempty (Hid (_ = _)) := ⟨hn⟩
    have W1 := fun w' => within_any f 0 1000 w'
    have W2 := fun w' => within_any n 0 1000 w'
    have W3 := fun w' => within_any o 0 2 w'
    obtain ⟨x1, hx1⟩ : ∃ b, Hid (inB3 f 0 1000 = b) := ⟨_, show _ = _ from rfl⟩
    obtain ⟨x2, hx2⟩ : ∃ b, Hid (inB3 n 0 1000 = b) := ⟨_, show _ = _ from rfl⟩
    obtain ⟨x3, hx3⟩ : ∃ b, Hid (inB3 o 0 2 = b) := ⟨_, show _ = _ from rfl⟩
    simp only [show inB3 f 0 1000 = x1 from hx1.out] at W1 HNU
    simp only [show inB3 n 0 1000 = x2 from hx2.out] at W2 HNU
    simp only [show inB3 o 0 2 = x3 from hx3.out] at W3 HNU
    obtain ⟨HW⟩ : Nonempty (Hid ((∀ w', Calls _ _ _ w' _) ∧ (∀ w', Calls _ _ _ w' _) ∧ (∀ w', Calls _ _ _ w' _))) := ⟨⟨W1, W2, W3⟩⟩
    clear hp hn hf i1 i2 h1 h2 hE W1 W2 W3 hc1 hc2 hc0 hd0 hx1 hx2 hx3
    go_enter Tryz.func8, Tryz.ntmps8
    go_wp2_with fail
    refine (HCP.out _ (below_alloc _ _)).mono ?_
    rintro e w1 ⟨⟨v1, rfl, hv1⟩, hb1⟩
    have hx := (ab_start w _).on hb1
    obtain ⟨HS⟩ : Nonempty (Hid (AB w w1 w.heap.size _)) := ⟨hx⟩
    obtain ⟨a0, a1, a2, a3, a4⟩ := hx.arg
    have hbw : Below w.heap.size w w1 := hx.2
    have eb := HE.out w1 hbw
    obtain ⟨HB⟩ : Nonempty (Hid (Below w.heap.size w w1)) := ⟨hbw⟩
    obtain ⟨HV⟩ : Nonempty (Hid (IsErr w1 E v1 c1 d1)) := ⟨hv1⟩
    clear hb1 hx hbw HCP
    rcases isErr_cases hv1 with ⟨rfl, rfl⟩ | ⟨hpos, t, a, rfl⟩
    · clear hv1
      cases x1 with
      | false =>
        have HF : Hid (c0 = 2 ∧ d0 = -1) := by
          have := HP.out
          rw [if_neg (by omega), show numsA _ = true from HNU.out, if_pos rfl] at this
          show _ ∧ _
          simpa using this
        go_wp2_with fail
        refine (HW.out.1 _).mono ?_
        rintro e w2 ⟨rfl, rfl⟩
        go_wp2_with fail
        go_ret
        refine ⟨⟨_, rfl, ?_⟩, HB.out⟩
        rw [HF.out.1, HF.out.2]
        exact .inl ⟨rfl, rfl⟩
      | true =>
        cases x2 with
        | false =>
          have HF : Hid (c0 = 2 ∧ d0 = -1) := by
            have := HP.out
            rw [if_neg (by omega), show numsA _ = true from HNU.out, if_pos rfl] at this
            show _ ∧ _
            simpa using this
          go_wp2_with fail
          refine (HW.out.1 _).mono ?_
          rintro e w2 ⟨rfl, rfl⟩
          go_wp2_with fail
          refine (HW.out.2.1 _).mono ?_
          rintro e w3 ⟨rfl, rfl⟩
          go_wp2_with fail
          go_ret
          refine ⟨⟨_, rfl, ?_⟩, HB.out⟩
          rw [HF.out.1, HF.out.2]
          exact .inl ⟨rfl, rfl⟩
        | true =>
          cases x3 with
          | false =>
            have HF : Hid (c0 = 2 ∧ d0 = -1) := by
              have := HP.out
              rw [if_neg (by omega), show numsA _ = true from HNU.out, if_pos rfl] at this
              show _ ∧ _
              simpa using this
            go_wp2_with fail
            refine (HW.out.1 _).mono ?_
            rintro e w2 ⟨rfl, rfl⟩
            go_wp2_with fail
            refine (HW.out.2.1 _).mono ?_
            rintro e w3 ⟨rfl, rfl⟩
            go_wp2_with fail
            refine (HW.out.2.2 _).mono ?_
            rintro e w4 ⟨rfl, rfl⟩
            go_wp2_with fail
            go_ret
            refine ⟨⟨_, rfl, ?_⟩, HB.out⟩
            rw [HF.out.1, HF.out.2]
            exact .inl ⟨rfl, rfl⟩
          | true =>
            have HF : Hid (c0 = c2 ∧ d0 = d2) := by
              have := HP.out
              rw [if_neg (by omega), show numsA _ = false from HNU.out, if_neg (by simp)] at this
              show _ ∧ _
              simpa using this
            obtain ⟨HCT'⟩ : Nonempty (Hid (Calls _ _ _ _ _)) := ⟨HCT.out w1 HB.out⟩
            go_wp2_with fail
            refine (HW.out.1 _).mono ?_
            rintro e w2 ⟨rfl, rfl⟩
            go_wp2_with fail
            refine (HW.out.2.1 _).mono ?_
            rintro e w3 ⟨rfl, rfl⟩
            go_wp2_with fail
            refine (HW.out.2.2 _).mono ?_
            rintro e w4 ⟨rfl, rfl⟩
            go_wp2_with fail
            refine HCT'.out.mono ?_
            rintro e w5 ⟨⟨v2, rfl, hv2⟩, hb2⟩
            obtain ⟨HV2⟩ : Nonempty (Hid (IsErr w5 E v2 c2 d2 ∧ Below w.heap.size w w5)) := ⟨⟨hv2, HB.out.trans (hb2.mono HB.out.size)⟩⟩
            clear hv2 hb2
            go_wp2_with fail
            go_ret
            refine ⟨⟨_, rfl, ?_⟩, HV2.out.2⟩
            rw [HF.out.1, HF.out.2]
            exact HV2.out.1
    · have HF : Hid (c0 = c1 ∧ d0 = d1) := by
        have := HP.out
        rw [if_pos hpos] at this
        show _ ∧ _
        simpa using this
      clear hv1
      go_wp2_with fail
      go_ret
      refine ⟨⟨_, rfl, ?_⟩, HB.out⟩
      rw [HF.out.1, HF.out.2]
      exact HV.out
end Go.Proofs.YtbfdgflbflajdaaGreatDoor
