/-
  Package place: Bare and First: what they return.
  The document's AttrFault: what it returns at every attribute.
  Package attr's Check: what it returns at every attribute; bare: an error without its place.
  The document's list of numbers (herepathref1.list): what it returns.
  The document's text of an attribute (herepathref1.AttrText): what it returns.
  Package attr's Check and bare: what they return.
-/
import Derived.Test.YtnifhaopjhgmnaaDoorAttrEnv
import Derived.Test.YtnifhaopjhgmnaaDoorGB
import Derived.Test.YtnifhaopjhgmnaaDoorGC
namespace Go.Proofs.YtnifhaopjhgmnaaDoor
open Go.RowKit

theorem isErr_cases {w : World} {E : Nat → Addr} {v : Value} {c : Nat} {d : Int} (h : IsErr w E v c d) : (c = 0 ∧ v = .nilIface) ∨ (0 < c ∧ ∃ t a, v = .iface t (.pointer (some a))) := by
  rcases h with ⟨h0, h1⟩ | ⟨h0, h1, b, e, -⟩
  · cases c with
    | zero => exact .inl ⟨rfl, h1⟩
    | succ c => exact .inr ⟨by omega, _, _, h1⟩
  · exact .inr ⟨h1, _, _, e⟩

set_option linter.unusedVariables false in
set_option maxRecDepth 100000 in
set_option maxHeartbeats 2000000 in
theorem bare_any (v : Value) (c : Nat) (d : Int) (E : Nat → Addr) (m : Int) (w : World) (hE : AttrEnv w E m) (h : IsErr w E v c d) (hc : 0 < c) :
    Calls Tryd.prog 26 #[v] w fun r w' => r = .returned (ev E c) ∧ Below w.heap.size w w' := by
  cases c with
  | zero => omega
  | succ c =>
  rcases h with ⟨-, rfl⟩ | ⟨h0, -, b, rfl, x, y⟩
  · simp only [ev]
    obtain ⟨a, ha⟩ : ∃ a, Hid (E c = a) := ⟨_, show _ = _ from rfl⟩
    rw [show E c = a from ha.out]
    obtain ⟨HC⟩ : Nonempty (Hid (Calls _ _ _ _ _)) := ⟨as_miss' a w hE.hand⟩
    clear hE
    go_enter Tryd.func26, Tryd.ntmps26
    go_wp2_with fail
    refine HC.out.mono ?_
    rintro e w1 ⟨rfl, hb1⟩
    go_wp2_with fail
    go_ret
    exact ⟨rfl, hb1⟩
  · obtain ⟨HC⟩ : Nonempty (Hid (Calls _ _ _ _ _)) := ⟨as_hit' ⟨b, 0, none⟩ w hE.hand⟩
    obtain ⟨HY⟩ : Nonempty (Hid (_ = _)) := ⟨y⟩
    obtain ⟨u, hu⟩ : ∃ u, Hid (ev E (c + 1) = u) := ⟨_, show _ = _ from rfl⟩
    rw [show ev E (c + 1) = u from hu.out] at HY ⊢
    clear hE x y
    go_enter Tryd.func26, Tryd.ntmps26
    go_wp2_with fail
    refine HC.out.mono ?_
    rintro e w1 ⟨rfl, hb1, hf⟩
    have hy := cell_kept hb1 HY.out
    go_wp2_with fail
    go_ret
    exact ⟨rfl, hb1⟩

/-- a question of a place, as a function of the program's: the number of the error that it answers; I: what stands ahead of place k; J: what stands behind an error. -/
structure Told (f : Nat) (cs : Array Value) (E : Nat → Addr) (m : Int) (n : Nat) (q : Nat → Nat) (I : Nat → World → Prop) (J : World → Prop) : Prop where
  enters : ∀ args w, (callFunc f args).run Tryd.prog w = .ok (.enter f args) w
  says : ∀ k W, k < n → I k W → Calls Tryd.prog f (#[.int .i64 (k : Int)] ++ cs) W fun r w' => (∃ v d, r = .returned v ∧ IsErr w' E v (q k) d) ∧ (q k = 0 → I (k + 1) w') ∧ (q k ≠ 0 → J w')
  env : ∀ w, J w → AttrEnv w E m
  on : ∀ w w', J w → Below w.heap.size w w' → J w'

set_option linter.unusedVariables false in
set_option maxRecDepth 100000 in
set_option maxHeartbeats 4000000 in
theorem first_any (n : Nat) (f : Nat) (cs : Array Value) (E : Nat → Addr) (m : Int) (q : Nat → Nat) (I : Nat → World → Prop) (J : World → Prop) (w : World) (hq : Told f cs E m n q I J) (h0 : I 0 w) (hn : n ≤ 1000000) :
    Calls Tryd.prog 17 #[.int .i64 (n : Int), .func (.func f) #[] cs] w fun r w' => (∃ v, r = .returned v ∧ IsErr w' E v (firstQ q n).1 (firstQ q n).2) ∧ ((firstQ q n).1 = 0 → I n w') ∧ ((firstQ q n).1 ≠ 0 → J w') := by
  have heg := hq.enters
  have HQ : Hid (Told f cs E m n q I J) := hq
  have H0 : Hid (I 0 w) := h0
  clear hq h0
  go_enter Tryd.func17, Tryd.ntmps17
  go_wp2_with fail
  go_loopw [8] (fun i wr => ∃ (j : Nat), i = .int .i64 j ∧ Hid (j ≤ firstN (fun k => decide (q k ≠ 0)) n ∧ I j wr) ∧ j ≤ n) (fun i _ => n - (intOf i).toNat)
  case atStart => exact ⟨0, rfl, ⟨Nat.zero_le _, H0.out⟩, Nat.zero_le _⟩
  case round =>
    obtain ⟨j, rfl, HK, hjl⟩ := hrel
    by_cases hlt : j < n
    · have q3 : (j : Int) < n := by omega
      obtain ⟨HC⟩ : Nonempty (Hid (Calls _ _ _ _ _)) := ⟨HQ.out.says j wr hlt HK.out.2⟩
      obtain ⟨c, hc⟩ : ∃ c, Hid (q j = c) := ⟨_, show _ = _ from rfl⟩
      rw [show q j = c from hc.out] at HC
      cases c with
      | zero =>
        obtain ⟨HN⟩ : Nonempty (Hid (j + 1 ≤ firstN (fun k => decide (q k ≠ 0)) n)) := ⟨firstN_step HK.out.1 hlt (by simp [hc.out])⟩
        go_wp2_with fail
        refine HC.out.mono ?_
        rintro e w1 ⟨⟨v, d, rfl, hv⟩, hi, -⟩
        obtain ⟨-, rfl⟩ : _ ∧ v = .nilIface := by
          rcases isErr_cases hv with h | ⟨h, -⟩
          · exact h
          · omega
        obtain ⟨HI⟩ : Nonempty (Hid (I (j + 1) w1)) := ⟨hi (by simp)⟩
        clear hi hv
        go_wp2_with fail
        go_roundw
        case rel => exact ⟨j + 1, by go_num, ⟨HN.out, HI.out⟩, by omega⟩
        case measure => simp [intOf]; omega
      | succ c =>
        obtain ⟨HN⟩ : Nonempty (Hid (firstN (fun k => decide (q k ≠ 0)) n = j)) := ⟨firstN_here HK.out.1 (by simp [hc.out])⟩
        have HF : Hid (firstQ q n = (c + 1, (j : Int))) := by
          show _ = _
          unfold firstQ
          rw [HN.out, if_pos hlt, hc.out]
        go_wp2_with fail
        refine HC.out.mono ?_
        rintro e w1 ⟨⟨v, d, rfl, hv⟩, -, hj⟩
        have hJ := hj (by omega)
        obtain ⟨HB⟩ : Nonempty (Hid (Calls _ _ _ _ _)) := ⟨bare_any v (c + 1) d E m w1 (HQ.out.env _ hJ) hv (by omega)⟩
        obtain ⟨HJ⟩ : Nonempty (Hid (J w1)) := ⟨hJ⟩
        obtain ⟨t, a, rfl⟩ : ∃ t a, v = .iface t (.pointer (some a)) := by
          rcases isErr_cases hv with ⟨h, -⟩ | ⟨-, h⟩
          · omega
          · exact h
        clear hv hj hJ
        go_wp2_with fail
        refine HB.out.mono ?_
        rintro e w2 ⟨rfl, hb2⟩
        simp only [ev]
        obtain ⟨u, hu⟩ : ∃ u, Hid (E c = u) := ⟨_, show _ = _ from rfl⟩
        rw [show E c = u from hu.out]
        have HJ2 : Hid (J w2) := HQ.out.on _ _ HJ.out hb2
        clear hb2
        go_wp2_with fail
        go_ret
        rw [HF.out]
        refine ⟨⟨_, rfl, ?_⟩, fun h => by simp at h, fun _ => HQ.out.on _ _ HJ2.out (below_alloc _ _)⟩
        refine .inr ⟨by simp, by simp, w2.heap.size, rfl, ?_, ?_⟩
        · simp
        · simp [ev, hu.out]
    · obtain rfl : j = n := by omega
      have HF : Hid (firstQ q j = (0, -1)) := by
        show _ = _
        unfold firstQ
        rw [firstN_end HK.out.1, if_neg (by omega)]
      go_wp2_with fail
      go_ret
      rw [HF.out]
      exact ⟨⟨_, rfl, isErr_nil _ _⟩, fun _ => HK.out.2, fun h => absurd rfl h⟩
/-- a question that changes nothing, and answers without a place. -/
theorem firstAsk_any (n : Nat) (f : Nat) (cv : Value) (E : Nat → Addr) (m : Int) (q : Nat → Nat) (w : World) (hE : AttrEnv w E m) (hq : Asked f cv E n q w) (hn : n ≤ 1000000) :
    Calls Tryd.prog 17 #[.int .i64 (n : Int), .func (.func f) #[] #[cv]] w fun r w' => (∃ v, r = .returned v ∧ IsErr w' E v (firstQ q n).1 (firstQ q n).2) ∧ Below w.heap.size w w' := by
  refine (first_any n f #[cv] E m q (fun _ W => Below w.heap.size w W) (fun W => Below w.heap.size w W) w ⟨hq.enters, fun k W hk hb => ?_, fun W hb => hE.below hb, fun W W' hb hb' => hb.trans (hb'.mono hb.size)⟩ (Below.refl _ _) hn).mono ?_
  · refine (hq.says k W hk hb).mono ?_
    rintro r w' ⟨rfl, hb'⟩
    exact ⟨⟨_, -1, rfl, .inl ⟨rfl, rfl⟩⟩, fun _ => hb.trans (hb'.mono hb.size), fun _ => hb.trans (hb'.mono hb.size)⟩
  · rintro r w' ⟨h1, h2, h3⟩
    refine ⟨h1, ?_⟩
    by_cases h : (firstQ q n).1 = 0
    · exact h2 h
    · exact h3 h
end Go.Proofs.YtnifhaopjhgmnaaDoor

namespace Go.Proofs.YtnifhaopjhgmnaaDoor
open Go.RowKit
theorem below_end {B : Nat} {w w1 : World} (h : Below B w w1) (u v : Value) : Below B w ((w1.setCell ⟨B + 1, 0, none⟩ u).setCell ⟨B + 1, 1, none⟩ v) := (h.setCell (by simp) _).setCell (by simp) _
theorem getD_at {L : List Int} {j : Nat} (h : j < L.length) : L.getD j 0 = L[j] := by simp [List.getD, h]

end Go.Proofs.YtnifhaopjhgmnaaDoor

namespace Go.Proofs.YtnifhaopjhgmnaaDoor
open Go.RowKit

def qP (P : List Int) (k : Nat) : Nat := if badP P k then 2 else 0
def qT (T : List Int) (k : Nat) : Nat := if outB (T.getD k 0) 9999 then 2 else if badT T k then 8 else 0
theorem enters_path : ∀ args w, (callFunc 54 args).run Tryd.prog w = .ok (.enter 54 args) w := fun args w => by kernel_rfl
theorem enters_tags : ∀ args w, (callFunc 55 args).run Tryd.prog w = .ok (.enter 55 args) w := fun args w => by kernel_rfl

set_option linter.unusedVariables false in
set_option maxRecDepth 100000 in
set_option maxHeartbeats 1000000 in
theorem ask_path (p : Option Addr) (P : List Int) (cp B : Nat) (E : Nat → Addr) (m : Int) (w : World) (hE : AttrEnv w E m) (h : Ints w p P) (hc : w.cell? ⟨B, 0, none⟩ = some (.slice p P.length cp)) (hl : P.length ≤ 1000000) :
    Asked 54 (.pointer (some ⟨B, 0, none⟩)) E P.length (qP P) w := by
  refine ⟨enters_path, fun k W hk hb => ?_⟩
  have c0 := cell_kept hb hc
  have eb := cell_kept hb hE.bound
  obtain ⟨b, o, rfl, x0⟩ := h k hk
  have d0 := cell_kept hb x0
  have hx : P.getD k 0 = P[k] := by simp [List.getD, hk]
  obtain ⟨x, hx0⟩ : ∃ x, Hid (P[k] = x) := ⟨_, show _ = _ from rfl⟩
  rw [hx0.out] at d0
  have eq : qP P k = if outB x 1000 then 2 else 0 := by unfold qP badP; rw [hx, hx0.out]
  rw [eq]
  have q3 : (k : Int) < P.length := by omega
  obtain ⟨HC⟩ : Nonempty (Hid (Calls _ _ _ _ _)) := ⟨isSystem_any x W⟩
  rw [inB3_out]
  clear eq hx hx0 x0 hE h hc hb
  cases hin : inB3 x 1 1000 with
  | true =>
    rw [hin] at HC
    go_enter Tryd.func54, Tryd.ntmps54
    go_wp2_with fail
    refine HC.out.mono ?_
    rintro e w1 ⟨rfl, rfl⟩
    go_wp2_with fail
    go_ret
    exact ⟨rfl, Below.refl _ _⟩
  | false =>
    rw [hin] at HC
    go_enter Tryd.func54, Tryd.ntmps54
    go_wp2_with fail
    refine HC.out.mono ?_
    rintro e w1 ⟨rfl, rfl⟩
    go_wp2_with fail
    go_ret
    exact ⟨rfl, Below.refl _ _⟩

set_option linter.unusedVariables false in
set_option maxRecDepth 100000 in
set_option maxHeartbeats 2000000 in
theorem ask_tags (p : Option Addr) (T : List Int) (cp B : Nat) (E : Nat → Addr) (m : Int) (w : World) (hE : AttrEnv w E m) (h : Ints w p T) (hc : w.cell? ⟨B, 0, none⟩ = some (.slice p T.length cp)) (hl : T.length ≤ 1000000) :
    Asked 55 (.pointer (some ⟨B, 0, none⟩)) E T.length (qT T) w := by
  refine ⟨enters_tags, fun k W hk hb => ?_⟩
  have c0 := cell_kept hb hc
  have eb := cell_kept hb hE.bound
  have eo := cell_kept hb hE.order
  have hi := h
  obtain ⟨b, o, rfl, x0⟩ := h k hk
  have d0 := cell_kept hb x0
  have hx : T.getD k 0 = T[k] := by simp [List.getD, hk]
  obtain ⟨x, hx0⟩ : ∃ x, Hid (T[k] = x) := ⟨_, show _ = _ from rfl⟩
  rw [hx0.out] at d0
  have q3 : (k : Int) < T.length := by omega
  obtain ⟨HC⟩ : Nonempty (Hid (Calls _ _ _ _ _)) := ⟨isTag_any x W⟩
  cases hin : inB3 x 1 9999 with
  | false =>
    rw [hin] at HC
    have eq : qT T k = 2 := by unfold qT; rw [hx, hx0.out, inB3_out, hin]; rfl
    rw [eq]
    clear eq hx hx0 x0 hE hi hc hb
    go_enter Tryd.func55, Tryd.ntmps55
    go_wp2_with fail
    refine HC.out.mono ?_
    rintro e w1 ⟨rfl, rfl⟩
    go_wp2_with fail
    go_ret
    exact ⟨rfl, Below.refl _ _⟩
  | true =>
    rw [hin] at HC
    have ho : outB (T.getD k 0) 9999 = false := by rw [hx, hx0.out, inB3_out, hin]; rfl
    cases k with
    | zero =>
      have eq : qT T 0 = 0 := by unfold qT badT; rw [ho]; rfl
      rw [eq]
      simp only [Nat.add_zero] at d0
      clear eq hx hx0 x0 hE hi hc hb ho
      go_enter Tryd.func55, Tryd.ntmps55
      go_wp2_with fail
      refine HC.out.mono ?_
      rintro e w1 ⟨rfl, rfl⟩
      go_wp2_with fail
      go_quiet (fail)
      go_wp2_with fail
      go_ret
      exact ⟨rfl, below_drewN (Below.refl _ _) _⟩
    | succ j =>
      obtain ⟨b', o', he', y0⟩ := hi j (by omega)
      simp only [Option.some.injEq, Addr.mk.injEq, and_true] at he'
      obtain ⟨rfl, rfl⟩ := he'
      have e0 := cell_kept hb y0
      have hy : T.getD (j + 1 - 1) 0 = T[j] := by simp [List.getD, show j < T.length by omega]
      obtain ⟨y, hy0⟩ : ∃ x, Hid (T[j] = x) := ⟨_, show _ = _ from rfl⟩
      rw [hy0.out] at e0
      have hj1 : ((j + 1 : Nat) : Int) - 1 = (j : Int) := by omega
      have hj2 : IntKind.i64.wrap (j : Int) = (j : Int) := wrapi _ (by omega)
      have hj3 : (j : Int) < T.length := by omega
      have hj4 : decide (0 < ((j + 1 : Nat) : Int)) = true := decide_eq_true (by omega)
      cases hle : decide (x ≤ y) with
      | true =>
        have eq : qT T (j + 1) = 8 := by unfold qT badT; rw [ho, hx, hy, hx0.out, hy0.out, hle]; simp
        rw [eq]
        clear eq hx hx0 x0 hE hi hc hb ho hy hy0 y0
        go_enter Tryd.func55, Tryd.ntmps55
        go_wp2_with fail
        refine HC.out.mono ?_
        rintro e w1 ⟨rfl, rfl⟩
        go_wp2_with fail
        go_quiet (fail)
        go_wp2_with fail
        go_ret
        exact ⟨rfl, below_drewN (Below.refl _ _) _⟩
      | false =>
        have eq : qT T (j + 1) = 0 := by unfold qT badT; rw [ho, hx, hy, hx0.out, hy0.out, hle]; simp
        rw [eq]
        clear eq hx hx0 x0 hE hi hc hb ho hy hy0 y0
        go_enter Tryd.func55, Tryd.ntmps55
        go_wp2_with fail
        refine HC.out.mono ?_
        rintro e w1 ⟨rfl, rfl⟩
        go_wp2_with fail
        go_quiet (fail)
        go_wp2_with fail
        go_ret
        exact ⟨rfl, below_drewN (Below.refl _ _) _⟩

theorem box_one (w : World) (v : Value) (t : TypeId) : (w.alloc (.cells #[v] t)).cell? ⟨w.heap.size, 0, none⟩ = some v := by rw [World.cell?_alloc_at _ _ _ _ rfl]; rfl

set_option linter.unusedVariables false in
set_option maxRecDepth 100000 in
set_option maxHeartbeats 1000000 in
theorem checkPath_any (p : Option Addr) (P : List Int) (cp : Nat) (E : Nat → Addr) (m : Int) (w : World) (hE : AttrEnv w E m) (h : Ints w p P) (hl : P.length ≤ 1000000) :
    Calls Tryd.prog 40 #[.slice p P.length cp] w fun r w' => (∃ v, r = .returned v ∧ IsErr w' E v (firstQ (qP P) P.length).1 (firstQ (qP P) P.length).2) ∧ Below w.heap.size w w' := by
  have hb := below_alloc w (.cells #[.slice p P.length cp] 25)
  obtain ⟨HC⟩ : Nonempty (Hid (Calls _ _ _ _ _)) := ⟨firstAsk_any P.length _ _ E m (qP P) (w.alloc (.cells #[.slice p P.length cp] 25)) (hE.below hb) (ask_path p P cp w.heap.size E m _ (hE.below hb) (h.below hb) (box_one _ _ _) hl) hl⟩
  obtain ⟨HB⟩ : Nonempty (Hid (Below _ _ _)) := ⟨hb⟩
  obtain ⟨c, hc⟩ : ∃ c, Hid ((firstQ (qP P) P.length).1 = c) := ⟨_, show _ = _ from rfl⟩
  obtain ⟨d, hd⟩ : ∃ c, Hid ((firstQ (qP P) P.length).2 = c) := ⟨_, show _ = _ from rfl⟩
  rw [show (firstQ (qP P) P.length).1 = c from hc.out, show (firstQ (qP P) P.length).2 = d from hd.out] at HC ⊢
  clear hb hE h
  go_enter Tryd.func40, Tryd.ntmps40
  go_wp2_with fail
  refine HC.out.mono ?_
  rintro e w1 ⟨⟨v, rfl, hv⟩, hb1⟩
  obtain ⟨HV⟩ : Nonempty (Hid (IsErr w1 E v c d ∧ Below w.heap.size w w1)) := ⟨⟨hv, HB.out.trans (hb1.mono HB.out.size)⟩⟩
  clear hv hb1
  go_wp2_with fail
  go_ret
  exact ⟨⟨v, rfl, HV.out.1⟩, HV.out.2⟩
set_option linter.unusedVariables false in
set_option maxRecDepth 100000 in
set_option maxHeartbeats 1000000 in
theorem checkTags_any (p : Option Addr) (T : List Int) (cp : Nat) (E : Nat → Addr) (m : Int) (w : World) (hE : AttrEnv w E m) (h : Ints w p T) (hl : T.length ≤ 1000000) :
    Calls Tryd.prog 41 #[.slice p T.length cp] w fun r w' => (∃ v, r = .returned v ∧ IsErr w' E v (firstQ (qT T) T.length).1 (firstQ (qT T) T.length).2) ∧ Below w.heap.size w w' := by
  have hb := below_alloc w (.cells #[.slice p T.length cp] 25)
  obtain ⟨HC⟩ : Nonempty (Hid (Calls _ _ _ _ _)) := ⟨firstAsk_any T.length _ _ E m (qT T) (w.alloc (.cells #[.slice p T.length cp] 25)) (hE.below hb) (ask_tags p T cp w.heap.size E m _ (hE.below hb) (h.below hb) (box_one _ _ _) hl) hl⟩
  obtain ⟨HB⟩ : Nonempty (Hid (Below _ _ _)) := ⟨hb⟩
  obtain ⟨c, hc⟩ : ∃ c, Hid ((firstQ (qT T) T.length).1 = c) := ⟨_, show _ = _ from rfl⟩
  obtain ⟨d, hd⟩ : ∃ c, Hid ((firstQ (qT T) T.length).2 = c) := ⟨_, show _ = _ from rfl⟩
  rw [show (firstQ (qT T) T.length).1 = c from hc.out, show (firstQ (qT T) T.length).2 = d from hd.out] at HC ⊢
  clear hb hE h
  go_enter Tryd.func41, Tryd.ntmps41
  go_wp2_with fail
  refine HC.out.mono ?_
  rintro e w1 ⟨⟨v, rfl, hv⟩, hb1⟩
  obtain ⟨HV⟩ : Nonempty (Hid (IsErr w1 E v c d ∧ Below w.heap.size w w1)) := ⟨⟨hv, HB.out.trans (hb1.mono HB.out.size)⟩⟩
  clear hv hb1
  go_wp2_with fail
  go_ret
  exact ⟨⟨v, rfl, HV.out.1⟩, HV.out.2⟩

theorem qP_bad (P : List Int) : (fun k => decide (qP P k ≠ 0)) = badP P := by
  funext k
  unfold qP
  cases badP P k <;> rfl
theorem qT_bad (T : List Int) : (fun k => decide (qT T k ≠ 0)) = badT T := by
  funext k
  unfold qT
  cases ho : outB (T.getD k 0) 9999 with
  | true => unfold badT; rw [ho]; rfl
  | false => cases badT T k <;> rfl
/-- the numbers of the first fault, by its parts. -/
theorem fault_parts (A : At) (h1 : fullA A = false) : ((faultA A).1.toNat, (faultA A).2) =
    if 0 < (firstQ (qP A.path) A.path.length).1 then firstQ (qP A.path) A.path.length
    else if numsA A then (2, -1) else firstQ (qT A.tags) A.tags.length := by
  unfold faultA firstQ
  rw [if_neg (by simp [h1]), qP_bad, qT_bad]
  by_cases h2 : firstN (badP A.path) A.path.length < A.path.length
  · have hb := (firstN_spec (badP A.path) A.path.length).2.2 h2
    rw [if_pos h2, if_pos h2]
    simp [qP, hb]
  · rw [if_neg h2, if_neg h2]
    cases h3 : numsA A with
    | true => simp
    | false =>
      by_cases h4 : firstN (badT A.tags) A.tags.length < A.tags.length
      · have hb := (firstN_spec (badT A.tags) A.tags.length).2.2 h4
        simp only [Nat.lt_irrefl, if_false, Bool.false_eq_true, h4, if_true]
        unfold qT
        cases ho : outB (A.tags.getD (firstN (badT A.tags) A.tags.length) 0) 9999 with
        | true => simp
        | false => simp [hb]
      · simp only [Nat.lt_irrefl, if_false, Bool.false_eq_true, h4]
        rfl
end Go.Proofs.YtnifhaopjhgmnaaDoor

namespace Go.Proofs.YtnifhaopjhgmnaaDoor
open Go.RowKit

/-- numbers written one behind another, a byte between two; a dash where there is none. -/
def joinN (c : UInt8) : List Int → List UInt8
  | [] => [45]
  | x :: r => Lib.itoa x ++ r.flatMap (fun y => c :: Lib.itoa y)
theorem joinN_more (c : UInt8) (L : List Int) (k : Nat) (h0 : 0 < k) (h : k < L.length) : joinN c (L.take (k + 1)) = joinN c (L.take k) ++ [c] ++ Lib.itoa L[k] := by
  cases L with
  | nil => simp at h
  | cons x r =>
    cases k with
    | zero => omega
    | succ j =>
      have hj : j < r.length := by simpa using h
      rw [List.take_succ_cons, List.take_succ_cons]
      simp only [joinN]
      rw [List.take_succ_eq_append_getElem hj, List.flatMap_append]
      simp only [List.flatMap_cons, List.flatMap_nil, List.append_nil, List.append_assoc, List.singleton_append, List.getElem_cons_succ]
theorem aItoa_len (n : Int) (h0 : -9223372036854775807 ≤ n) (h1 : n ≤ 9223372036854775807) : (Lib.itoa n).length ≤ 21 := by
  unfold Lib.itoa
  split
  · have := decDigits_len n.natAbs (by omega)
    simp; omega
  · have := decDigits_len n.toNat (by omega)
    omega
theorem joinN_len (c : UInt8) (L : List Int) (hr : ∀ x ∈ L, -9223372036854775807 ≤ x ∧ x ≤ 9223372036854775807) : (joinN c L).length ≤ 22 * L.length + 1 := by
  cases L with
  | nil => simp [joinN]
  | cons x r =>
    have h0 := aItoa_len x (hr x (by simp)).1 (hr x (by simp)).2
    have h1 : ∀ r : List Int, (∀ x ∈ r, -9223372036854775807 ≤ x ∧ x ≤ 9223372036854775807) → (r.flatMap (fun y => c :: Lib.itoa y)).length ≤ 22 * r.length := by
      intro r
      induction r with
      | nil => intro _; simp
      | cons y r ih =>
        intro hy
        have := ih (fun x hx => hy x (by simp [hx]))
        have h2 := aItoa_len y (hy y (by simp)).1 (hy y (by simp)).2
        simp only [List.flatMap_cons, List.length_append, List.length_cons]
        omega
    have h2 := h1 r (fun y hy => hr y (by simp [hy]))
    simp only [joinN, List.length_append, List.length_cons]
    omega
end Go.Proofs.YtnifhaopjhgmnaaDoor

namespace Go.Proofs.YtnifhaopjhgmnaaDoor
open Go.RowKit

/-- an attribute that is right. -/
structure RightA (A : At) : Prop where
  path : A.path.length ≤ 12
  tags : A.tags.length ≤ 8
  sys : ∀ x ∈ A.path, 1 ≤ x ∧ x ≤ 1000
  pref : 0 ≤ A.pref ∧ A.pref ≤ 1000
  med : 0 ≤ A.med ∧ A.med ≤ 1000
  org : 0 ≤ A.org ∧ A.org ≤ 2
  tag : ∀ x ∈ A.tags, 1 ≤ x ∧ x ≤ 9999
  rise : ∀ j (h : j + 1 < A.tags.length), A.tags[j] < A.tags[j + 1]
theorem right_of_fault {A : At} (h : (faultA A).1 ≤ 0) : RightA A := by
  unfold faultA at h
  split at h
  · exact absurd h (by simp)
  rename_i h1
  split at h
  · exact absurd h (by simp)
  rename_i h2
  split at h
  · exact absurd h (by simp)
  rename_i h3
  split at h
  · split at h <;> exact absurd h (by simp)
  rename_i h4
  simp only [fullA, Bool.or_eq_true, decide_eq_true_eq] at h1
  simp only [numsA, Bool.or_eq_true, decide_eq_true_eq] at h3
  have e2 : firstN (badP A.path) A.path.length = A.path.length := by have := (firstN_spec (badP A.path) A.path.length).1; omega
  have e4 : firstN (badT A.tags) A.tags.length = A.tags.length := by have := (firstN_spec (badT A.tags) A.tags.length).1; omega
  have p2 := (firstN_spec (badP A.path) A.path.length).2.1
  have p4 := (firstN_spec (badT A.tags) A.tags.length).2.1
  rw [e2] at p2
  rw [e4] at p4
  refine ⟨by omega, by omega, fun x hx => ?_, by omega, by omega, by omega, fun x hx => ?_, fun j hj => ?_⟩
  · obtain ⟨i, hi, rfl⟩ := List.getElem_of_mem hx
    have := p2 i hi
    unfold badP at this
    rw [getD_at hi] at this
    simp [outB] at this
    omega
  · obtain ⟨i, hi, rfl⟩ := List.getElem_of_mem hx
    have := p4 i hi
    unfold badT at this
    rw [getD_at hi] at this
    simp [outB] at this
    omega
  · have := p4 (j + 1) hj
    unfold badT at this
    rw [getD_at hj, show j + 1 - 1 = j from rfl, getD_at (show j < A.tags.length by omega)] at this
    simp [outB] at this
    omega
theorem fault_of_right {A : At} (h : RightA A) : faultA A = (0, -1) := by
  obtain ⟨h1, h2, h3, h4, h5, h6, h7, h8⟩ := h
  have n1 : ¬ fullA A = true := by simp only [fullA, Bool.or_eq_true, decide_eq_true_eq]; omega
  have n3 : ¬ numsA A = true := by simp only [numsA, Bool.or_eq_true, decide_eq_true_eq]; omega
  have n2 : ¬ firstN (badP A.path) A.path.length < A.path.length := by
    intro hl
    have := (firstN_spec (badP A.path) A.path.length).2.2 hl
    have hx := h3 _ (List.getElem_mem hl)
    generalize firstN (badP A.path) A.path.length = k at *
    unfold badP at this
    rw [getD_at hl] at this
    simp [outB] at this
    omega
  have n4 : ¬ firstN (badT A.tags) A.tags.length < A.tags.length := by
    intro hl
    have hb := (firstN_spec (badT A.tags) A.tags.length).2.2 hl
    have hx := h7 _ (List.getElem_mem hl)
    generalize firstN (badT A.tags) A.tags.length = k at *
    unfold badT at hb
    rw [getD_at hl] at hb
    cases k with
    | zero => simp [outB] at hb; omega
    | succ j =>
      rw [show j + 1 - 1 = j from rfl, getD_at (show j < A.tags.length by omega)] at hb
      have := h8 j hl
      simp [outB] at hb
      omega
  unfold faultA
  rw [if_neg n1, if_neg n2, if_neg n3, if_neg n4]
/-- the first fault's number is 0, or above it. -/
theorem fault_sign (A : At) : (faultA A).1 = 0 ∨ 0 < (faultA A).1 := by
  unfold faultA
  repeat' split
  all_goals simp

/-- the text of an attribute that is right. -/
def textA (A : At) : List UInt8 := joinN 45 A.path ++ [32] ++ Lib.itoa A.pref ++ [32] ++ Lib.itoa A.med ++ [32] ++ Lib.itoa A.org ++ [32] ++ joinN 44 A.tags

/-- an argument's copy, while a function runs. -/
def AB (w wr : World) (B : Nat) (va : Array Value) : Prop := wr.heap[B]? = some (.cells va 27 (0, 0)) ∧ Below B w wr
theorem AB.on {w wr w' : World} {B : Nat} {va : Array Value} (h : AB w wr B va) (hb : Below wr.heap.size wr w') : AB w w' B va := by
  obtain ⟨a, c⟩ := h
  have l1 := (Array.getElem?_eq_some_iff.1 a).1
  exact ⟨by rw [hb.block B l1]; exact a, c.trans (hb.mono (Nat.le_of_lt l1))⟩
theorem ab_start (w : World) (va : Array Value) : AB w (w.alloc (.cells va 27)) w.heap.size va := ⟨Go.heap_alloc_new w _, below_alloc _ _⟩
theorem AB.arg {w wr : World} {B : Nat} {a b c d e : Value} (h : AB w wr B #[a, b, c, d, e]) : wr.cell? ⟨B, 0, none⟩ = some a ∧ wr.cell? ⟨B, 1, none⟩ = some b ∧ wr.cell? ⟨B, 2, none⟩ = some c ∧ wr.cell? ⟨B, 3, none⟩ = some d ∧ wr.cell? ⟨B, 4, none⟩ = some e := by
  refine ⟨?_, ?_, ?_, ?_, ?_⟩ <;> simp [World.cell?, h.1]

end Go.Proofs.YtnifhaopjhgmnaaDoor

namespace Go.Proofs.YtnifhaopjhgmnaaDoor
open Go.RowKit

theorem ev_ne (E : Nat → Addr) (c : Nat) : ∃ a, ev E (c + 1) = .iface 117 (.pointer (some a)) := ⟨_, rfl⟩
theorem inB3_nums (A : At) : numsA A = (!(inB3 A.pref 0 1000) || (!(inB3 A.med 0 1000) || !(inB3 A.org 0 2))) := by
  unfold numsA inB3
  simp only [Bool.not_and, ← decide_not, Int.not_le, Bool.or_assoc]
theorem AB.keep {w wr w' : World} {B : Nat} {va : Array Value} (h : AB w wr B va) (hb : Below wr.heap.size wr w') : AB w w' B va := h.on hb

set_option linter.unusedVariables false in
set_option maxRecDepth 100000 in
set_option maxHeartbeats 4000000 in
theorem aCheck_any (v : Value) (A : At) (E : Nat → Addr) (m : Int) (w : World) (hE : AttrEnv w E m) (h : IsAttr w v A) (h1 : A.path.length ≤ 1000000) (h2 : A.tags.length ≤ 1000000) :
    Calls Tryd.prog 27 #[v] w fun r w' => (∃ v', r = .returned v' ∧ IsErr w' E v' (faultA A).1.toNat (faultA A).2) ∧ Below w.heap.size w w' := by
  cases hf : fullA A with
  | true =>
    have e1 : faultA A = (7, -1) := by unfold faultA; rw [if_pos hf]
    rw [e1]
    have eb := cell_kept (below_alloc w (.cells #[] 27)) hE.full
    obtain ⟨p, cp, q, cq, rfl, i1, i2⟩ := h
    obtain ⟨P, f, n, o, T⟩ := A
    simp only at *
    have ef := fun o => cell_kept (below_alloc w o) hE.full
    clear e1 hE i1 i2 eb
    by_cases g1 : 12 < P.length
    · have g1' : decide (12 < (P.length : Int)) = true := decide_eq_true (by omega)
      go_enter Tryd.func27, Tryd.ntmps27
      go_wp2_with fail
      have ef' := ef (.cells #[.slice p P.length cp, .int .i64 f, .int .i64 n, .int .i64 o, .slice q T.length cq] 27)
      go_wp2_with fail
      go_ret
      exact ⟨⟨_, rfl, .inl ⟨rfl, rfl⟩⟩, below_alloc _ _⟩
    · have g1' : decide (12 < (P.length : Int)) = false := decide_eq_false (by omega)
      have g2' : decide (8 < (T.length : Int)) = true := by
        simp only [fullA, Bool.or_eq_true, decide_eq_true_eq] at hf
        exact decide_eq_true (by omega)
      go_enter Tryd.func27, Tryd.ntmps27
      go_wp2_with fail
      have ef' := ef (.cells #[.slice p P.length cp, .int .i64 f, .int .i64 n, .int .i64 o, .slice q T.length cq] 27)
      go_wp2_with fail
      go_ret
      exact ⟨⟨_, rfl, .inl ⟨rfl, rfl⟩⟩, below_alloc _ _⟩
  | false =>
    have hp := fault_parts A hf
    have hn := inB3_nums A
    obtain ⟨c0, hc0⟩ : ∃ c, Hid ((faultA A).1.toNat = c) := ⟨_, show _ = _ from rfl⟩
    obtain ⟨d0, hd0⟩ : ∃ c, Hid ((faultA A).2 = c) := ⟨_, show _ = _ from rfl⟩
    rw [show (faultA A).1.toNat = c0 from hc0.out, show (faultA A).2 = d0 from hd0.out] at hp ⊢
    obtain ⟨p, cp, q, cq, rfl, i1, i2⟩ := h
    obtain ⟨P, f, n, o, T⟩ := A
    simp only at *
    have HCP : Hid (∀ w', Below w.heap.size w w' → Calls _ _ _ _ _) := fun w' hb => checkPath_any p P cp E m w' (hE.below hb) (i1.below hb) h1
    have HCT : Hid (∀ w', Below w.heap.size w w' → Calls _ _ _ _ _) := fun w' hb => checkTags_any q T cq E m w' (hE.below hb) (i2.below hb) h2
    obtain ⟨c1, hc1⟩ : ∃ c, Hid (firstQ (qP P) P.length = c) := ⟨_, show _ = _ from rfl⟩
    obtain ⟨c2, hc2⟩ : ∃ c, Hid (firstQ (qT T) T.length = c) := ⟨_, show _ = _ from rfl⟩
    rw [show firstQ (qP P) P.length = c1 from hc1.out] at hp HCP
    rw [show firstQ (qT T) T.length = c2 from hc2.out] at hp HCT
    obtain ⟨c1, d1⟩ := c1
    obtain ⟨c2, d2⟩ := c2
    simp only at *
    have g1' : decide (12 < (P.length : Int)) = false := by
      simp only [fullA, Bool.or_eq_false_iff, decide_eq_false_iff_not] at hf
      exact decide_eq_false (by omega)
    have g2' : decide (8 < (T.length : Int)) = false := by
      simp only [fullA, Bool.or_eq_false_iff, decide_eq_false_iff_not] at hf
      exact decide_eq_false (by omega)
    have HE : Hid (∀ w', Below w.heap.size w w' → w'.cell? ⟨1, 0, none⟩ = some (.iface 117 (.pointer (some (E 1))))) := fun w' hb => cell_kept hb hE.bound
    obtain ⟨HP⟩ : Nonempty (Hid (_ = _)) := ⟨hp⟩
    obtain ⟨HNU⟩ : Nonempty (Hid (_ = _)) := ⟨hn⟩
    have W1 := fun w' => within_any f 0 1000 w'
    have W2 := fun w' => within_any n 0 1000 w'
    have W3 := fun w' => within_any o 0 2 w'
    obtain ⟨x1, hx1⟩ : ∃ b, Hid (inB3 f 0 1000 = b) := ⟨_, show _ = _ from rfl⟩
    obtain ⟨x2, hx2⟩ : ∃ b, Hid (inB3 n 0 1000 = b) := ⟨_, show _ = _ from rfl⟩
    obtain ⟨x3, hx3⟩ : ∃ b, Hid (inB3 o 0 2 = b) := ⟨_, show _ = _ from rfl⟩
    simp only [show inB3 f 0 1000 = x1 from hx1.out] at W1 HNU
    simp only [show inB3 n 0 1000 = x2 from hx2.out] at W2 HNU
    simp only [show inB3 o 0 2 = x3 from hx3.out] at W3 HNU
    obtain ⟨HW⟩ : Nonempty (Hid ((∀ w', Calls _ _ _ w' _) ∧ (∀ w', Calls _ _ _ w' _) ∧ (∀ w', Calls _ _ _ w' _))) := ⟨⟨W1, W2, W3⟩⟩
    clear hp hn hf i1 i2 h1 h2 hE W1 W2 W3 hc1 hc2 hc0 hd0 hx1 hx2 hx3
    go_enter Tryd.func27, Tryd.ntmps27
    go_wp2_with fail
    refine (HCP.out _ (below_alloc _ _)).mono ?_
    rintro e w1 ⟨⟨v1, rfl, hv1⟩, hb1⟩
    have hx := (ab_start w _).on hb1
    obtain ⟨HS⟩ : Nonempty (Hid (AB w w1 w.heap.size _)) := ⟨hx⟩
    obtain ⟨a0, a1, a2, a3, a4⟩ := hx.arg
    have hbw : Below w.heap.size w w1 := hx.2
    have eb := HE.out w1 hbw
    obtain ⟨HB⟩ : Nonempty (Hid (Below w.heap.size w w1)) := ⟨hbw⟩
    obtain ⟨HV⟩ : Nonempty (Hid (IsErr w1 E v1 c1 d1)) := ⟨hv1⟩
    clear hb1 hx hbw HCP
    rcases isErr_cases hv1 with ⟨rfl, rfl⟩ | ⟨hpos, t, a, rfl⟩
    · clear hv1
      cases x1 with
      | false =>
        have HF : Hid (c0 = 2 ∧ d0 = -1) := by
          have := HP.out
          rw [if_neg (by omega), show numsA _ = true from HNU.out, if_pos rfl] at this
          show _ ∧ _
          simpa using this
        go_wp2_with fail
        refine (HW.out.1 _).mono ?_
        rintro e w2 ⟨rfl, rfl⟩
        go_wp2_with fail
        go_ret
        refine ⟨⟨_, rfl, ?_⟩, HB.out⟩
        rw [HF.out.1, HF.out.2]
        exact .inl ⟨rfl, rfl⟩
      | true =>
        cases x2 with
        | false =>
          have HF : Hid (c0 = 2 ∧ d0 = -1) := by
            have := HP.out
            rw [if_neg (by omega), show numsA _ = true from HNU.out, if_pos rfl] at this
            show _ ∧ _
            simpa using this
          go_wp2_with fail
          refine (HW.out.1 _).mono ?_
          rintro e w2 ⟨rfl, rfl⟩
          go_wp2_with fail
          refine (HW.out.2.1 _).mono ?_
          rintro e w3 ⟨rfl, rfl⟩
          go_wp2_with fail
          go_ret
          refine ⟨⟨_, rfl, ?_⟩, HB.out⟩
          rw [HF.out.1, HF.out.2]
          exact .inl ⟨rfl, rfl⟩
        | true =>
          cases x3 with
          | false =>
            have HF : Hid (c0 = 2 ∧ d0 = -1) := by
              have := HP.out
              rw [if_neg (by omega), show numsA _ = true from HNU.out, if_pos rfl] at this
              show _ ∧ _
              simpa using this
            go_wp2_with fail
            refine (HW.out.1 _).mono ?_
            rintro e w2 ⟨rfl, rfl⟩
            go_wp2_with fail
            refine (HW.out.2.1 _).mono ?_
            rintro e w3 ⟨rfl, rfl⟩
            go_wp2_with fail
            refine (HW.out.2.2 _).mono ?_
            rintro e w4 ⟨rfl, rfl⟩
            go_wp2_with fail
            go_ret
            refine ⟨⟨_, rfl, ?_⟩, HB.out⟩
            rw [HF.out.1, HF.out.2]
            exact .inl ⟨rfl, rfl⟩
          | true =>
            have HF : Hid (c0 = c2 ∧ d0 = d2) := by
              have := HP.out
              rw [if_neg (by omega), show numsA _ = false from HNU.out, if_neg (by simp)] at this
              show _ ∧ _
              simpa using this
            obtain ⟨HCT'⟩ : Nonempty (Hid (Calls _ _ _ _ _)) := ⟨HCT.out w1 HB.out⟩
            go_wp2_with fail
            refine (HW.out.1 _).mono ?_
            rintro e w2 ⟨rfl, rfl⟩
            go_wp2_with fail
            refine (HW.out.2.1 _).mono ?_
            rintro e w3 ⟨rfl, rfl⟩
            go_wp2_with fail
            refine (HW.out.2.2 _).mono ?_
            rintro e w4 ⟨rfl, rfl⟩
            go_wp2_with fail
            refine HCT'.out.mono ?_
            rintro e w5 ⟨⟨v2, rfl, hv2⟩, hb2⟩
            obtain ⟨HV2⟩ : Nonempty (Hid (IsErr w5 E v2 c2 d2 ∧ Below w.heap.size w w5)) := ⟨⟨hv2, HB.out.trans (hb2.mono HB.out.size)⟩⟩
            clear hv2 hb2
            go_wp2_with fail
            go_ret
            refine ⟨⟨_, rfl, ?_⟩, HV2.out.2⟩
            rw [HF.out.1, HF.out.2]
            exact HV2.out.1
    · have HF : Hid (c0 = c1 ∧ d0 = d1) := by
        have := HP.out
        rw [if_pos hpos] at this
        show _ ∧ _
        simpa using this
      clear hv1
      go_wp2_with fail
      go_ret
      refine ⟨⟨_, rfl, ?_⟩, HB.out⟩
      rw [HF.out.1, HF.out.2]
      exact HV.out
end Go.Proofs.YtnifhaopjhgmnaaDoor
