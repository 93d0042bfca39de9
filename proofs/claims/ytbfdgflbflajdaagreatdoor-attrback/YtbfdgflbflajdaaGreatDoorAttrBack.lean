/-
  herepathlaw1.AttrBack returns true, whatever is told, whatever numbers.
-/
import Derived.Test.YtbfdgflbflajdaaGreatDoorHD
import Derived.Deep.Cut
import Derived.Deep.CutRange
namespace Go.Proofs.YtbfdgflbflajdaaGreatDoor
open Go.RowKit
open scoped Classical

/-- the argument's copy at N, while a law runs. -/
def BS (w wr : World) (N : Nat) (E : Nat → Addr) (m : Int) (A : At) (p : Option Addr) (cp : Nat) (q : Option Addr) (cq : Nat) : Prop :=
  AB w wr N #[.slice p A.path.length cp, .int .i64 A.pref, .int .i64 A.med, .int .i64 A.org, .slice q A.tags.length cq] ∧ AttrK wr (.agg #[.slice p A.path.length cp, .int .i64 A.pref, .int .i64 A.med, .int .i64 A.org, .slice q A.tags.length cq]) A ∧ AttrEnv wr E m ∧ N < wr.heap.size
theorem BS.on {w wr w' : World} {N : Nat} {E : Nat → Addr} {m : Int} {A : At} {p q : Option Addr} {cp cq : Nat} (h : BS w wr N E m A p cp q cq) (hb : Below wr.heap.size wr w') : BS w w' N E m A p cp q cq :=
  ⟨h.1.on hb, h.2.1.below hb, h.2.2.1.below hb, Nat.lt_of_lt_of_le h.2.2.2 hb.size⟩
/-- an attribute that was answered, at X. -/
def CB (wr : World) (X : Nat) (A : At) (p : Option Addr) (cp : Nat) (q : Option Addr) (cq : Nat) : Prop :=
  RY wr X #[.slice p A.path.length cp, .int .i64 A.pref, .int .i64 A.med, .int .i64 A.org, .slice q A.tags.length cq] ∧ AttrK wr (.agg #[.slice p A.path.length cp, .int .i64 A.pref, .int .i64 A.med, .int .i64 A.org, .slice q A.tags.length cq]) A
theorem CB.on {wr w' : World} {X : Nat} {A : At} {p q : Option Addr} {cp cq : Nat} (h : CB wr X A p cp q cq) (hb : Below wr.heap.size wr w') : CB w' X A p cp q cq :=
  ⟨by unfold RY; rw [hb.block X (Array.getElem?_eq_some_iff.1 h.1).1]; exact h.1, h.2.below hb⟩
theorem cb_new {wr : World} {A : At} {p q : Option Addr} {cp cq : Nat} (h : AttrK wr (.agg #[.slice p A.path.length cp, .int .i64 A.pref, .int .i64 A.med, .int .i64 A.org, .slice q A.tags.length cq]) A) : CB (wr.alloc (.cells #[.slice p A.path.length cp, .int .i64 A.pref, .int .i64 A.med, .int .i64 A.org, .slice q A.tags.length cq] 24)) wr.heap.size A p cp q cq :=
  ⟨Go.heap_alloc_new _ _, h.below (below_alloc _ _)⟩
theorem AttrK.ints {w : World} {A : At} {p q : Option Addr} {cp cq : Nat} (h : AttrK w (.agg #[.slice p A.path.length cp, .int .i64 A.pref, .int .i64 A.med, .int .i64 A.org, .slice q A.tags.length cq]) A) : Ints w p A.path ∧ Ints w q A.tags ∧ Kind1 p A.path.length cp ∧ Kind1 q A.tags.length cq := by
  obtain ⟨p', cp', q', cq', e, h1, h2, h3, h4⟩ := h
  simp only [Value.agg.injEq, Array.mk.injEq, List.cons.injEq, Value.slice.injEq, and_true, true_and] at e
  obtain ⟨⟨rfl, rfl⟩, rfl, rfl⟩ := e
  exact ⟨h1, h2, h3, h4⟩
theorem text_len {A : At} (hA : RightA A) : (textA A).length ≤ 1000 := by
  have rp : ∀ x ∈ A.path, -9223372036854775807 ≤ x ∧ x ≤ 9223372036854775807 := fun x hx => by have := hA.sys x hx; omega
  have rt : ∀ x ∈ A.tags, -9223372036854775807 ≤ x ∧ x ≤ 9223372036854775807 := fun x hx => by have := hA.tag x hx; omega
  have a := joinN_len 45 A.path rp
  have b := joinN_len 44 A.tags rt
  have c := aItoa_len A.pref (by have := hA.pref; omega) (by have := hA.pref; omega)
  have d := aItoa_len A.med (by have := hA.med; omega) (by have := hA.med; omega)
  have e := aItoa_len A.org (by have := hA.org; omega) (by have := hA.org; omega)
  have f := hA.path
  have g := hA.tags
  unfold textA
  simp only [List.length_append, List.length_cons, List.length_nil]
  omega
theorem leadC_nonneg (A : At) (x n : Int) : 0 ≤ leadC A x n := by
  have hs := fault_sign A
  unfold leadC
  (repeat' split) <;> omega
theorem tagC_nonneg (A : At) (x : Int) : 0 ≤ tagC A x := by
  have hs := fault_sign A
  unfold tagC
  (repeat' split) <;> omega
theorem ints_drop {w : World} {b o : Nat} {L : List Int} (h : Ints w (some ⟨b, o, none⟩) L) (k : Nat) : Ints w (some ⟨b, o + k, none⟩) (L.drop k) := fun i hi => by
  have hk : k + i < L.length := by simp at hi; omega
  obtain ⟨b', o', e, c⟩ := h (k + i) hk
  simp only [Option.some.injEq, Addr.mk.injEq, and_true] at e
  obtain ⟨rfl, rfl⟩ := e
  exact ⟨b, o + k, rfl, by rw [Nat.add_assoc, c]; simp⟩
theorem eq_nil (w : World) : (binOp .eql 28 .nilIface .nilIface).run Tryz.prog w = .ok (.bool true) w := by kernel_rfl
theorem eq_err (a : Addr) (w : World) : (binOp .eql 28 (.iface 224 (.pointer (some a))) .nilIface).run Tryz.prog w = .ok (.bool false) w := by kernel_rfl
theorem eq_ev (E : Nat → Addr) (c : Nat) (w : World) : (binOp .eql 28 (ev E c) .nilIface).run Tryz.prog w = .ok (.bool (decide (c = 0))) w := by
  cases c with
  | zero => exact eq_nil w
  | succ c => exact eq_err (E c) w
theorem eqg_ev (E : Nat → Addr) (c : Nat) (w : World) : (eqGuard .eql 28 (.tmp 54) (.const .nilIface) (ev E c) .nilIface).run Tryz.prog w = .ok () w := by
  cases c with
  | zero => kernel_rfl
  | succ c => kernel_rfl
theorem sameT (p q : Option Addr) (L : List Int) (k cap cap' k' : Nat) (w : World) (h : Ints w p L) (h' : Ints w q L) (hk : k = L.length) (hk' : k' = L.length) (hl : L.length ≤ 1000000) :
    Calls Tryz.prog 14 #[.slice p k cap, .slice q k' cap'] w fun r w' => r = .returned (.bool true) ∧ Below w.heap.size w w' := by
  have := rSameInts_any p q L L k k' cap cap' w h h' hk hk' hl hl
  rw [show decide (L = L) = true from by simp] at this
  exact this
theorem ev_pos (E : Nat → Addr) {c : Nat} (h : 0 < c) : ∃ a, ev E c = .iface 224 (.pointer (some a)) := by
  cases c with
  | zero => omega
  | succ c => exact ⟨_, rfl⟩

set_option linter.unusedSimpArgs false in
set_option linter.unusedVariables false in
set_option maxRecDepth 100000 in
set_option maxHeartbeats 8000000 in
theorem attrBack_any (v : Value) (A : At) (x n tg : Int) (E : Nat → Addr) (m : Int) (w : World) (hE : AttrEnv w E m) (h : AttrK w v A) :
    Calls Tryz.prog 3 #[v, .int .i64 x, .int .i64 n, .int .i64 tg] w fun r w' => r = .returned (.bool true) ∧ Below w.heap.size w w' := by
  have hk := h
  obtain ⟨p, cp, q, cq, rfl, -, -, -, -⟩ := h
  obtain ⟨N, hN⟩ : ∃ N, Hid (w.heap.size = N) := ⟨_, show _ = _ from rfl⟩
  obtain ⟨HS0⟩ : Nonempty (Hid (BS w (w.alloc (.cells #[.slice p A.path.length cp, .int .i64 A.pref, .int .i64 A.med, .int .i64 A.org, .slice q A.tags.length cq] 24)) N E m A p cp q cq)) := ⟨by
    rw [← hN.out]; exact ⟨ab_start w _, hk.below (below_alloc _ _), hE.below (below_alloc _ _), by simp⟩⟩
  clear hE hk
  go_enter Tryz.func3, Tryz.ntmps3
  go_wp2_with fail
  refine (told_any E m _ HS0.out.2.2.1).mono ?_
  rintro e w1 ⟨rfl, hb1⟩
  rw [show w.heap.size = N from hN.out]
  obtain ⟨HS1⟩ : Nonempty (Hid (BS w w1 N E m A p cp q cq)) := ⟨HS0.out.on hb1⟩
  clear hb1 HS0
  obtain ⟨HL⟩ : Nonempty (Hid (Calls _ _ _ _ _)) := ⟨rLongAttr_any _ A w1 HS1.out.2.1.attr⟩
  obtain ⟨a0, a1, a2, a3, a4⟩ := HS1.out.1.arg
  cases hl : longA A with
  | true =>
    rw [hl] at HL
    go_wp2_with fail
    refine HL.out.mono ?_
    rintro e w2 ⟨rfl, hb2⟩
    obtain ⟨HS2⟩ : Nonempty (Hid (BS w w2 N E m A p cp q cq)) := ⟨HS1.out.on hb2⟩
    clear hb2 a0 a1 a2 a3 a4
    go_wp2_with fail
    go_ret
    exact ⟨rfl, by rw [show w.heap.size = N from hN.out]; exact HS2.out.1.2⟩
  | false =>
    rw [hl] at HL
    obtain ⟨hpl, htl⟩ : A.path.length ≤ 20 ∧ A.tags.length ≤ 15 := by simp [longA] at hl; omega
    clear hl
    go_wp2_with fail
    refine HL.out.mono ?_
    rintro e w2 ⟨rfl, hb2⟩
    obtain ⟨HS2⟩ : Nonempty (Hid (BS w w2 N E m A p cp q cq)) := ⟨HS1.out.on hb2⟩
    clear hb2 a0 a1 a2 a3 a4 HL HS1
    obtain ⟨a0, a1, a2, a3, a4⟩ := HS2.out.1.arg
    obtain ⟨HC⟩ : Nonempty (Hid (Calls _ _ _ _ _)) := ⟨aCheck_any _ A E m w2 HS2.out.2.2.1 HS2.out.2.1.attr (by omega) (by omega)⟩
    rcases fault_sign A with hf | hf
    case inr =>
      obtain ⟨c, hc⟩ : ∃ c, Hid ((faultA A).1.toNat = c) := ⟨_, show _ = _ from rfl⟩
      obtain ⟨d, hd⟩ : ∃ c, Hid ((faultA A).2 = c) := ⟨_, show _ = _ from rfl⟩
      rw [show (faultA A).1.toNat = c from hc.out, show (faultA A).2 = d from hd.out] at HC
      have hpos : ¬ c = 0 := by rw [← hc.out]; omega
      obtain ⟨HF⟩ : Nonempty (Hid (0 < (faultA A).1)) := ⟨hf⟩
      clear hf
      go_wp2_with fail
      refine HC.out.mono ?_
      rintro e w3 ⟨⟨v1, rfl, hv1⟩, hb3⟩
      obtain ⟨HS3⟩ : Nonempty (Hid (BS w w3 N E m A p cp q cq)) := ⟨HS2.out.on hb3⟩
      rcases isErr_cases hv1 with ⟨rfl, rfl⟩ | ⟨-, t, ad, rfl⟩
      · exact absurd rfl hpos
      clear hb3 hv1 a0 a1 a2 a3 a4 HC
      obtain ⟨a0, a1, a2, a3, a4⟩ := HS3.out.1.arg
      obtain ⟨HT⟩ : Nonempty (Hid (Calls _ _ _ _ _)) := ⟨text_bad _ A E m w3 HS3.out.2.2.1 HS3.out.2.1.attr (by omega) (by omega) HF.out⟩
      go_wp2_with fail
      refine HT.out.mono ?_
      rintro e w4 ⟨rfl, hb4⟩
      obtain ⟨HS4⟩ : Nonempty (Hid (BS w w4 N E m A p cp q cq)) := ⟨HS3.out.on hb4⟩
      clear hb4 a0 a1 a2 a3 a4
      go_wp2_with fail
      go_ret
      exact ⟨rfl, by rw [show w.heap.size = N from hN.out]; exact HS4.out.1.2⟩
    case inl =>
      have hA := right_of_fault (A := A) (by omega)
      rw [fault_of_right hA] at HC
      obtain ⟨HA⟩ : Nonempty (Hid (RightA A)) := ⟨hA⟩
      clear hf hA
      go_wp2_with fail
      refine HC.out.mono ?_
      rintro e w3 ⟨⟨v1, rfl, hv1⟩, hb3⟩
      obtain ⟨HS3⟩ : Nonempty (Hid (BS w w3 N E m A p cp q cq)) := ⟨HS2.out.on hb3⟩
      rcases isErr_cases hv1 with ⟨-, rfl⟩ | ⟨h0, -⟩
      case inr => exact absurd h0 (by simp)
      clear hb3 hv1 a0 a1 a2 a3 a4 HC HS2
      obtain ⟨a0, a1, a2, a3, a4⟩ := HS3.out.1.arg
      obtain ⟨HT⟩ : Nonempty (Hid (Calls _ _ _ _ _)) := ⟨text_right _ A E m w3 HS3.out.2.2.1 HS3.out.2.1.attr HA.out⟩
      obtain ⟨tx, htx⟩ : ∃ t, Hid (textA A = t) := ⟨_, show _ = _ from rfl⟩
      rw [show textA A = tx from htx.out] at HT
      go_wp2_with fail
      refine HT.out.mono ?_
      rintro e w4 ⟨rfl, hb4⟩
      obtain ⟨HS4⟩ : Nonempty (Hid (BS w w4 N E m A p cp q cq)) := ⟨HS3.out.on hb4⟩
      clear hb4 a0 a1 a2 a3 a4 HT HS3
      obtain ⟨HR⟩ : Nonempty (Hid (Calls Tryz.prog 10 #[.string ⟨tx.toArray⟩] w4 fun r w' => (∃ v, r = .returned (.tuple #[v, .nilIface]) ∧ AttrK w' v A) ∧ Below w4.heap.size w4 w')) := ⟨by
        have := aRead_any tx E m w4 HS4.out.2.2.1 (by rw [← htx.out]; have := text_len HA.out; omega)
        have h2 := read_text HA.out
        rw [show textA A = tx from htx.out] at h2
        rw [h2.1, h2.2] at this
        exact this⟩
      go_wp2_with fail
      refine HR.out.mono ?_
      rintro e w5 ⟨⟨v2, rfl, hk5⟩, hb5⟩
      obtain ⟨HS5⟩ : Nonempty (Hid (BS w w5 N E m A p cp q cq)) := ⟨HS4.out.on hb5⟩
      have hk5' := hk5
      obtain ⟨p2, c2, q2, d2, rfl, -, -, -, -⟩ := hk5
      obtain ⟨W6, hW6⟩ : ∃ W, Hid (w5.alloc (.cells #[.slice p2 A.path.length c2, .int .i64 A.pref, .int .i64 A.med, .int .i64 A.org, .slice q2 A.tags.length d2] 24) = W) := ⟨_, show _ = _ from rfl⟩
      obtain ⟨X2, hX2⟩ : ∃ X, Hid (w5.heap.size = X) := ⟨_, show _ = _ from rfl⟩
      obtain ⟨HS6⟩ : Nonempty (Hid (BS w W6 N E m A p cp q cq ∧ CB W6 X2 A p2 c2 q2 d2)) := ⟨by
        rw [← show _ = W6 from hW6.out, ← show w5.heap.size = X2 from hX2.out]; exact ⟨HS5.out.on (below_alloc _ _), cb_new hk5'⟩⟩
      obtain ⟨HSM⟩ : Nonempty (Hid (Calls _ _ _ _ _)) := ⟨same_any _ _ A A W6 HS6.out.2.2.attr HS6.out.1.2.1.attr (by omega) (by omega) (by omega) (by omega)⟩
      rw [show decide (A = A) = true from by simp] at HSM
      clear hb5 hk5' HR HS4
      go_upto_region 7 with fail
      rw [show w5.alloc (.cells #[.slice p2 A.path.length c2, .int .i64 A.pref, .int .i64 A.med, .int .i64 A.org, .slice q2 A.tags.length d2] 24) = W6 from hW6.out, show w5.heap.size = X2 from hX2.out]
      clear hW6 hX2
      obtain ⟨a0, a1, a2, a3, a4⟩ := HS6.out.1.1.arg
      obtain ⟨b0, b1, b2, b3, b4⟩ := HS6.out.2.1.cells
      go_wp2_with fail
      refine HSM.out.mono ?_
      rintro e w7 ⟨rfl, hb7⟩
      obtain ⟨HS7⟩ : Nonempty (Hid (BS w w7 N E m A p cp q cq)) := ⟨HS6.out.1.on hb7⟩
      clear hb7 a0 a1 a2 a3 a4 b0 b1 b2 b3 b4 HSM HS6 HS5
      obtain ⟨a0, a1, a2, a3, a4⟩ := HS7.out.1.arg
      obtain ⟨HLD⟩ : Nonempty (Hid (Calls _ _ _ _ _)) := ⟨lead_any _ A x n E m w7 HS7.out.2.2.1 HS7.out.2.1 (by omega) (by omega)⟩
      obtain ⟨lc, hlc⟩ : ∃ c, Hid ((leadC A x n).toNat = c) := ⟨_, show _ = _ from rfl⟩
      obtain ⟨LA, hLA⟩ : ∃ c, Hid ((if leadC A x n = 0 then leadA A x n else noneA) = c) := ⟨_, show _ = _ from rfl⟩
      rw [show (leadC A x n).toNat = lc from hlc.out, show (if leadC A x n = 0 then leadA A x n else noneA) = LA from hLA.out] at HLD
      go_wp2_with fail
      refine HLD.out.mono ?_
      rintro e w8 ⟨⟨v3, rfl, hk8⟩, hb8⟩
      obtain ⟨HS8⟩ : Nonempty (Hid (BS w w8 N E m A p cp q cq)) := ⟨HS7.out.on hb8⟩
      have hk8' := hk8
      obtain ⟨p3, c3, q3, d3, rfl, -, -, -, -⟩ := hk8
      obtain ⟨W9, hW9⟩ : ∃ W, Hid (w8.alloc (.cells #[.slice p3 LA.path.length c3, .int .i64 LA.pref, .int .i64 LA.med, .int .i64 LA.org, .slice q3 LA.tags.length d3] 24) = W) := ⟨_, show _ = _ from rfl⟩
      obtain ⟨X3, hX3⟩ : ∃ X, Hid (w8.heap.size = X) := ⟨_, show _ = _ from rfl⟩
      obtain ⟨HS9⟩ : Nonempty (Hid (BS w W9 N E m A p cp q cq ∧ CB W9 X3 LA p3 c3 q3 d3)) := ⟨by
        rw [← show _ = W9 from hW9.out, ← show w8.heap.size = X3 from hX3.out]; exact ⟨HS8.out.on (below_alloc _ _), cb_new hk8'⟩⟩
      obtain ⟨u3, hu3⟩ : ∃ u, Hid (ev E lc = u) := ⟨_, show _ = _ from rfl⟩
      rw [show ev E lc = u3 from hu3.out]
      clear hb8 hk8' HLD HS7 a0 a1 a2 a3 a4
      go_upto_region 10 with fail
      rw [show w8.alloc (.cells #[.slice p3 LA.path.length c3, .int .i64 LA.pref, .int .i64 LA.med, .int .i64 LA.org, .slice q3 LA.tags.length d3] 24) = W9 from hW9.out, show w8.heap.size = X3 from hX3.out]
      clear hW9 hX3
      obtain ⟨bz, hbz⟩ : ∃ b, Hid (decide (lc = 0) = b) := ⟨_, show _ = _ from rfl⟩
      have heq : ∀ w, (binOp .eql 28 u3 .nilIface).run Tryz.prog w = .ok (.bool bz) w := fun w => by
        have := eq_ev E lc w
        rw [show ev E lc = u3 from hu3.out, show decide (lc = 0) = bz from hbz.out] at this
        exact this
      have heg : ∀ w, (eqGuard .eql 28 (.tmp 54) (.const .nilIface) u3 .nilIface).run Tryz.prog w = .ok () w := fun w => by
        have := eqg_ev E lc w
        rw [show ev E lc = u3 from hu3.out] at this
        exact this
      obtain ⟨HBZ⟩ : Nonempty (Hid (bz = true → leadC A x n = 0 ∧ LA = leadA A x n)) := ⟨fun h => by
        rw [← hbz.out, decide_eq_true_eq] at h
        have h0 := leadC_nonneg A x n
        have h1 : leadC A x n = 0 := by rw [← hlc.out] at h; omega
        exact ⟨h1, by rw [← hLA.out, if_pos h1]⟩⟩
      clear hbz hu3 hlc hLA
      go_upto_if 55 with fail
      clear heq heg
      go_cut [] from 18 (fun w' => ∃ wx : World, Hid (BS w wx N E m A p cp q cq) ∧ wx = w')
      case first J0 K0 hJ0 hK0 =>
        cases bz with
        | false =>
          go_wp2_with fail
          go_meet
          exact ⟨W9, HS9.out.1, rfl⟩
        | true =>
          obtain ⟨h0, rfl⟩ := HBZ.out rfl
          obtain ⟨N0, rfl, hN0, hx0, hpn⟩ := lead_ok HA.out h0
          have hrl := lead_right HA.out h0
          obtain ⟨HRL⟩ : Nonempty (Hid (RightA (leadA A x (N0 : Int)))) := ⟨hrl⟩
          have hll := lead_len A x N0
          have hlh := lead_has A x N0
          have hld := lead_drop A x N0
          obtain ⟨LA, hLA⟩ : ∃ L, Hid (leadA A x (N0 : Int) = L) := ⟨_, show _ = _ from rfl⟩
          obtain ⟨HTG⟩ : Nonempty (Hid ((leadA A x (N0 : Int)).tags = A.tags)) := ⟨rfl⟩
          rw [show leadA A x (N0 : Int) = LA from hLA.out] at HS9 HRL hll hlh hld HTG ⊢
          clear hrl HBZ h0
          obtain ⟨HLL⟩ : Nonempty (Hid (LA.path.length = A.path.length + N0 ∧ LA.path.drop N0 = A.path)) := ⟨⟨hll, hld⟩⟩
          have g1 : IntKind.i64.wrap ((A.path.length : Int) + (N0 : Int)) = (A.path.length : Int) + (N0 : Int) := wrapi _ (by omega)
          have g2 : ((LA.path.length : Int) != (A.path.length : Int) + (N0 : Int)) = false := by rw [bne_eq_false_iff_eq]; omega
          have hlb : LA.path.length ≤ 12 := by omega
          clear hll hld
          obtain ⟨a0, a1, a2, a3, a4⟩ := HS9.out.1.1.arg
          obtain ⟨b0, b1, b2, b3, b4⟩ := HS9.out.2.1.cells
          obtain ⟨HLT⟩ : Nonempty (Hid (LA.path.length ≤ 1000000 ∧ LA.tags.length ≤ 1000000)) := ⟨⟨by omega, by rw [HTG.out]; omega⟩⟩
          go_upto_region 11 with fail
          obtain ⟨bp, hbp⟩ : ∃ b, Hid (decide (0 < (N0 : Int)) = b) := ⟨_, show _ = _ from rfl⟩
          obtain ⟨HBP⟩ : Nonempty (Hid (bp = true → LA.path.contains x = true)) := ⟨fun h => by rw [← hbp.out, decide_eq_true_eq] at h; exact hlh (by omega)⟩
          go_cut [79] from 18 (fun s w' => ∃ y1 : World, s = .bool false ∧ Hid (BS w y1 N E m A p cp q cq ∧ CB y1 X3 LA p3 c3 q3 d3) ∧ y1 = w')
          case first J1 K1 hJ1 hK1 =>
            cases bp with
            | false =>
              have gp : decide (0 < (N0 : Int)) = false := hbp.out
              have gp2 : decide (0 < N0) = false := by have := hbp.out; rw [decide_eq_false_iff_not] at this ⊢; omega
              have gp3 : ¬ 0 < N0 := by simpa using gp2
              obtain ⟨HCK⟩ : Nonempty (Hid (Calls _ _ _ _ _)) := ⟨aCheck_any _ LA E m W9 HS9.out.1.2.2.1 HS9.out.2.2.attr HLT.out.1 HLT.out.2⟩
              rw [fault_of_right HRL.out] at HCK
              go_wp2_with fail
              refine HCK.out.mono ?_
              rintro e y1 ⟨⟨v5, rfl, hv5⟩, hb5⟩
              rcases isErr_cases hv5 with ⟨-, rfl⟩ | ⟨h0, -⟩
              case inr => exact absurd h0 (by simp)
              obtain ⟨HY⟩ : Nonempty (Hid (BS w y1 N E m A p cp q cq ∧ CB y1 X3 LA p3 c3 q3 d3)) := ⟨⟨HS9.out.1.on hb5, HS9.out.2.on hb5⟩⟩
              clear hb5 hv5 HCK
              go_wp2_with fail
              go_meet
              exact ⟨y1, rfl, HY, rfl⟩
            | true =>
              have gp : decide (0 < (N0 : Int)) = true := hbp.out
              have gp2 : decide (0 < N0) = true := by have := hbp.out; rw [decide_eq_true_eq] at this ⊢; omega
              have hth := HBP.out rfl
              obtain ⟨HTR⟩ : Nonempty (Hid (Calls _ _ _ _ _)) := ⟨through_any _ LA x W9 HS9.out.2.2.attr HLT.out.1⟩
              rw [hth] at HTR
              clear hth
              go_wp2_with fail
              refine HTR.out.mono ?_
              rintro e y0 ⟨rfl, hb4⟩
              obtain ⟨HY0⟩ : Nonempty (Hid (BS w y0 N E m A p cp q cq ∧ CB y0 X3 LA p3 c3 q3 d3)) := ⟨⟨HS9.out.1.on hb4, HS9.out.2.on hb4⟩⟩
              clear hb4 HTR b0 b1 b2 b3 b4
              obtain ⟨b0, b1, b2, b3, b4⟩ := HY0.out.2.1.cells
              obtain ⟨HCK⟩ : Nonempty (Hid (Calls _ _ _ _ _)) := ⟨aCheck_any _ LA E m y0 HY0.out.1.2.2.1 HY0.out.2.2.attr HLT.out.1 HLT.out.2⟩
              rw [fault_of_right HRL.out] at HCK
              go_wp2_with fail
              refine HCK.out.mono ?_
              rintro e y1 ⟨⟨v5, rfl, hv5⟩, hb5⟩
              rcases isErr_cases hv5 with ⟨-, rfl⟩ | ⟨h0, -⟩
              case inr => exact absurd h0 (by simp)
              obtain ⟨HY⟩ : Nonempty (Hid (BS w y1 N E m A p cp q cq ∧ CB y1 X3 LA p3 c3 q3 d3)) := ⟨⟨HY0.out.1.on hb5, HY0.out.2.on hb5⟩⟩
              clear hb5 hv5 HCK
              go_wp2_with fail
              go_meet
              exact ⟨y1, rfl, HY, rfl⟩
          case rest =>
            obtain ⟨y1, rfl, HY, hX⟩ := hcut
            subst hX
            clear a0 a1 a2 a3 a4 b0 b1 b2 b3 b4 g1 g2 hlh HBP
            go_upto_region 13 with fail
            rcases HY.out.2.2.ints.2.2.1 with ⟨rfl, hk0, rfl⟩ | ⟨⟨pb, po, rfl⟩, hk1, hk2⟩
            · have hpe : A.path.length = 0 := by have := HLL.out.1; omega
              have HPE : Hid (A.path = []) := List.eq_nil_of_length_eq_zero hpe
              have hN00 : N0 = 0 := by have := HLL.out.1; omega
              clear hpe hk0
              subst hN00
              obtain ⟨HK13⟩ : Nonempty (Hid (∀ y, BS w y N E m A p cp q cq ∧ CB y X3 LA none 0 q3 d3 → (fun w' => w'.cell? ⟨X3, 0, none⟩ = some (.slice none LA.path.length 0) ∧ w'.cell? ⟨X3, 4, none⟩ = some (.slice q3 LA.tags.length d3) ∧ w'.cell? ⟨N, 0, none⟩ = some (.slice p A.path.length cp) ∧ w'.cell? ⟨N, 4, none⟩ = some (.slice q A.tags.length cq)) y)) := ⟨fun y h => ⟨h.2.1.cells.1, h.2.1.cells.2.2.2.2, h.1.1.arg.1, h.1.1.arg.2.2.2.2⟩⟩
              obtain ⟨HYD⟩ : Nonempty (Hid (BS w y1.drew N E m A p cp q cq ∧ CB y1.drew X3 LA none 0 q3 d3)) := ⟨⟨HY.out.1.on (Below.refl _ _).drew, HY.out.2.on (Below.refl _ _).drew⟩⟩
              refine wp_region_noPanic ?_
              refine wp_region_held_drew (S := (fun w' => w'.cell? ⟨X3, 0, none⟩ = some (.slice none LA.path.length 0) ∧ w'.cell? ⟨X3, 4, none⟩ = some (.slice q3 LA.tags.length d3) ∧ w'.cell? ⟨N, 0, none⟩ = some (.slice p A.path.length cp) ∧ w'.cell? ⟨N, 4, none⟩ = some (.slice q A.tags.length cq))) (by kernel_rfl) ?_ (fun hHeld => ?_)
              · exact HK13.out _ HYD.out
              refine wpAnyH_take (i := 0) (v := ?_) rfl (by kernel_rfl) (by kernel_rfl) (by kernel_rfl) (fun _ _ _ h => h) (Or.inl ⟨by rfl, ?_⟩) (by assumption) ?_
              rotate_left
              · (intro w hSw; (try dsimp only at hSw); go_simp; try (with_reducible rfl))
              try simp only [Act.put, List.setIfInBounds_toArray, List.set_cons_zero, List.set_cons_succ, List.getElem_toArray, List.getElem_cons_zero, List.getElem_cons_succ]
              refine wpAnyH_take (i := 1) (v := ?_) rfl (by kernel_rfl) (by kernel_rfl) (by kernel_rfl) (fun _ _ _ h => h) (Or.inl ⟨by rfl, ?_⟩) (by assumption) ?_
              rotate_left
              · (intro w hSw; (try dsimp only at hSw); go_simp; try (with_reducible rfl))
              try simp only [Act.put, List.setIfInBounds_toArray, List.set_cons_zero, List.set_cons_succ, List.getElem_toArray, List.getElem_cons_zero, List.getElem_cons_succ]
              refine wpAnyH_take (i := 2) (v := ?_) rfl (by kernel_rfl) (by kernel_rfl) (by kernel_rfl) (fun _ _ _ h => h) (Or.inl ⟨by rfl, ?_⟩) (by assumption) ?_
              rotate_left
              · (intro w hSw; (try dsimp only at hSw); go_simp; try (with_reducible rfl))
              try simp only [Act.put, List.setIfInBounds_toArray, List.set_cons_zero, List.set_cons_succ, List.getElem_toArray, List.getElem_cons_zero, List.getElem_cons_succ]
              refine wpAnyH_take (i := 3) (v := ?_) rfl (by kernel_rfl) (by kernel_rfl) (by kernel_rfl) (fun _ _ _ h => h) (Or.inl ⟨by rfl, ?_⟩) (by assumption) ?_
              rotate_left
              · (intro w hSw; (try dsimp only at hSw); go_simp; try (with_reducible rfl))
              try simp only [Act.put, List.setIfInBounds_toArray, List.set_cons_zero, List.set_cons_succ, List.getElem_toArray, List.getElem_cons_zero, List.getElem_cons_succ]
              refine wpAnyH_take (i := 4) (v := ?_) rfl (by kernel_rfl) (by kernel_rfl) (by kernel_rfl) (fun _ _ _ h => h) (Or.inl ⟨by rfl, ?_⟩) (by assumption) ?_
              rotate_left
              · (intro w hSw; (try dsimp only at hSw); go_simp; try (with_reducible rfl))
              try simp only [Act.put, List.setIfInBounds_toArray, List.set_cons_zero, List.set_cons_succ, List.getElem_toArray, List.getElem_cons_zero, List.getElem_cons_succ]
              refine wpAnyH_take (i := 5) (v := ?_) rfl (by kernel_rfl) (by kernel_rfl) (by kernel_rfl) (fun _ _ _ h => h) (Or.inl ⟨by rfl, ?_⟩) (by assumption) ?_
              rotate_left
              · (intro w hSw; (try dsimp only at hSw); go_simp; try (with_reducible rfl))
              try simp only [Act.put, List.setIfInBounds_toArray, List.set_cons_zero, List.set_cons_succ, List.getElem_toArray, List.getElem_cons_zero, List.getElem_cons_succ]
              refine wpAnyH_ready (rs := [6]) (by kernel_rfl) (by simp) ?_
              refine AllReadyH.cons rfl (fun K hK => ?_) AllReadyH.nil
              go_simp
              refine (sameT _ _ A.path _ _ _ _ _ (by rw [HPE.out]; exact ints_nil _ _) HYD.out.1.2.1.ints.1 (by have := HLL.out.1; omega) rfl (by omega)).mono ?_
              rintro r y2 ⟨rfl, hb6⟩
              obtain ⟨HY2⟩ : Nonempty (Hid (BS w y2 N E m A p cp q cq ∧ CB y2 X3 LA none 0 q3 d3)) := ⟨⟨HYD.out.1.on hb6, HYD.out.2.on hb6⟩⟩
              clear hb6
              refine hK.out _ _ ?_ (fun hHeld => ?_)
              · exact HK13.out _ HY2.out
              clear hK K
              try simp only [Act.put, List.setIfInBounds_toArray, List.set_cons_zero, List.set_cons_succ, List.getElem_toArray, List.getElem_cons_zero, List.getElem_cons_succ]
              refine wpAnyH_take (i := 7) (v := ?_) rfl (by kernel_rfl) (by kernel_rfl) (by kernel_rfl) (fun _ _ _ h => h) (Or.inl ⟨by rfl, ?_⟩) (by assumption) ?_
              rotate_left
              · (intro w hSw; (try dsimp only at hSw); go_simp; try (with_reducible rfl))
              try simp only [Act.put, List.setIfInBounds_toArray, List.set_cons_zero, List.set_cons_succ, List.getElem_toArray, List.getElem_cons_zero, List.getElem_cons_succ]
              refine wpAnyH_take (i := 8) (v := ?_) rfl (by kernel_rfl) (by kernel_rfl) (by kernel_rfl) (fun _ _ _ h => h) (Or.inl ⟨by rfl, ?_⟩) (by assumption) ?_
              rotate_left
              · (intro w hSw; (try dsimp only at hSw); go_simp; try (with_reducible rfl))
              try simp only [Act.put, List.setIfInBounds_toArray, List.set_cons_zero, List.set_cons_succ, List.getElem_toArray, List.getElem_cons_zero, List.getElem_cons_succ]
              refine wpAnyH_take (i := 9) (v := ?_) rfl (by kernel_rfl) (by kernel_rfl) (by kernel_rfl) (fun _ _ _ h => h) (Or.inl ⟨by rfl, ?_⟩) (by assumption) ?_
              rotate_left
              · (intro w hSw; (try dsimp only at hSw); go_simp; try (with_reducible rfl))
              try simp only [Act.put, List.setIfInBounds_toArray, List.set_cons_zero, List.set_cons_succ, List.getElem_toArray, List.getElem_cons_zero, List.getElem_cons_succ]
              refine wpAnyH_take (i := 10) (v := ?_) rfl (by kernel_rfl) (by kernel_rfl) (by kernel_rfl) (fun _ _ _ h => h) (Or.inl ⟨by rfl, ?_⟩) (by assumption) ?_
              rotate_left
              · (intro w hSw; (try dsimp only at hSw); go_simp; try (with_reducible rfl))
              try simp only [Act.put, List.setIfInBounds_toArray, List.set_cons_zero, List.set_cons_succ, List.getElem_toArray, List.getElem_cons_zero, List.getElem_cons_succ]
              refine wpAnyH_take (i := 11) (v := ?_) rfl (by kernel_rfl) (by kernel_rfl) (by kernel_rfl) (fun _ _ _ h => h) (Or.inl ⟨by rfl, ?_⟩) (by assumption) ?_
              rotate_left
              · (intro w hSw; (try dsimp only at hSw); go_simp; try (with_reducible rfl))
              try simp only [Act.put, List.setIfInBounds_toArray, List.set_cons_zero, List.set_cons_succ, List.getElem_toArray, List.getElem_cons_zero, List.getElem_cons_succ]
              refine wpAnyH_take (i := 12) (v := ?_) rfl (by kernel_rfl) (by kernel_rfl) (by kernel_rfl) (fun _ _ _ h => h) (Or.inl ⟨by rfl, ?_⟩) (by assumption) ?_
              rotate_left
              · (intro w hSw; (try dsimp only at hSw); go_simp; try (with_reducible rfl))
              try simp only [Act.put, List.setIfInBounds_toArray, List.set_cons_zero, List.set_cons_succ, List.getElem_toArray, List.getElem_cons_zero, List.getElem_cons_succ]
              refine wpAnyH_ready (rs := [13]) (by kernel_rfl) (by simp) ?_
              refine AllReadyH.cons rfl (fun K hK => ?_) AllReadyH.nil
              go_simp
              refine (sameT _ _ A.tags _ _ _ _ _ (by have := HY2.out.2.2.ints.2.1; rw [HTG.out] at this; exact this) HY2.out.1.2.1.ints.2.1 (by rw [HTG.out]) rfl (by omega)).mono ?_
              rintro r y3 ⟨rfl, hb7⟩
              obtain ⟨HY3⟩ : Nonempty (Hid (BS w y3 N E m A p cp q cq ∧ CB y3 X3 LA none 0 q3 d3)) := ⟨⟨HY2.out.1.on hb7, HY2.out.2.on hb7⟩⟩
              clear hb7
              refine hK.out _ _ ?_ (fun hHeld => ?_)
              · exact HK13.out _ HY3.out
              clear hK K
              try simp only [Act.put, List.setIfInBounds_toArray, List.set_cons_zero, List.set_cons_succ, List.getElem_toArray, List.getElem_cons_zero, List.getElem_cons_succ]
              refine wpAnyH_take (i := 14) (v := ?_) rfl (by kernel_rfl) (by kernel_rfl) (by kernel_rfl) (fun _ _ _ h => h) (Or.inl ⟨by rfl, ?_⟩) (by assumption) ?_
              rotate_left
              · (intro w hSw; (try dsimp only at hSw); go_simp; try (with_reducible rfl))
              try simp only [Act.put, List.setIfInBounds_toArray, List.set_cons_zero, List.set_cons_succ, List.getElem_toArray, List.getElem_cons_zero, List.getElem_cons_succ]
              refine wpAnyH_take (i := 15) (v := ?_) rfl (by kernel_rfl) (by kernel_rfl) (by kernel_rfl) (fun _ _ _ h => h) (Or.inl ⟨by rfl, ?_⟩) (by assumption) ?_
              rotate_left
              · (intro w hSw; (try dsimp only at hSw); go_simp; try (with_reducible rfl))
              try simp only [Act.put, List.setIfInBounds_toArray, List.set_cons_zero, List.set_cons_succ, List.getElem_toArray, List.getElem_cons_zero, List.getElem_cons_succ]
              refine wpAnyH_done (by kernel_rfl) ?_ _
              refine NoPanic.normal ?_
              clear hHeld
              go_wp2_with fail
              go_meet
              exact ⟨y3, HY3.out.1, rfl⟩
            · by_cases hcn : c3 = N0
              · have hpe : A.path.length = 0 := by have := HLL.out.1; omega
                have HPE : Hid (A.path = []) := List.eq_nil_of_length_eq_zero hpe
                have hle : (c3 : Int) ≤ (LA.path.length : Int) := by have := HLL.out.1; omega
                subst hcn
                clear hpe
                obtain ⟨HK13⟩ : Nonempty (Hid (∀ y, BS w y N E m A p cp q cq ∧ CB y X3 LA (some ⟨pb, po, none⟩) c3 q3 d3 → (fun w' => w'.cell? ⟨X3, 0, none⟩ = some (.slice (some ⟨pb, po, none⟩) LA.path.length c3) ∧ w'.cell? ⟨X3, 4, none⟩ = some (.slice q3 LA.tags.length d3) ∧ w'.cell? ⟨N, 0, none⟩ = some (.slice p A.path.length cp) ∧ w'.cell? ⟨N, 4, none⟩ = some (.slice q A.tags.length cq)) y)) := ⟨fun y h => ⟨h.2.1.cells.1, h.2.1.cells.2.2.2.2, h.1.1.arg.1, h.1.1.arg.2.2.2.2⟩⟩
                obtain ⟨HYD⟩ : Nonempty (Hid (BS w y1.drew N E m A p cp q cq ∧ CB y1.drew X3 LA (some ⟨pb, po, none⟩) c3 q3 d3)) := ⟨⟨HY.out.1.on (Below.refl _ _).drew, HY.out.2.on (Below.refl _ _).drew⟩⟩
                refine wp_region_noPanic ?_
                refine wp_region_held_drew (S := (fun w' => w'.cell? ⟨X3, 0, none⟩ = some (.slice (some ⟨pb, po, none⟩) LA.path.length c3) ∧ w'.cell? ⟨X3, 4, none⟩ = some (.slice q3 LA.tags.length d3) ∧ w'.cell? ⟨N, 0, none⟩ = some (.slice p A.path.length cp) ∧ w'.cell? ⟨N, 4, none⟩ = some (.slice q A.tags.length cq))) (by kernel_rfl) ?_ (fun hHeld => ?_)
                · exact HK13.out _ HYD.out
                refine wpAnyH_take (i := 0) (v := ?_) rfl (by kernel_rfl) (by kernel_rfl) (by kernel_rfl) (fun _ _ _ h => h) (Or.inl ⟨by rfl, ?_⟩) (by assumption) ?_
                rotate_left
                · (intro w hSw; (try dsimp only at hSw); go_simp; try (with_reducible rfl))
                try simp only [Act.put, List.setIfInBounds_toArray, List.set_cons_zero, List.set_cons_succ, List.getElem_toArray, List.getElem_cons_zero, List.getElem_cons_succ]
                refine wpAnyH_take (i := 1) (v := ?_) rfl (by kernel_rfl) (by kernel_rfl) (by kernel_rfl) (fun _ _ _ h => h) (Or.inl ⟨by rfl, ?_⟩) (by assumption) ?_
                rotate_left
                · (intro w hSw; (try dsimp only at hSw); go_simp; try (with_reducible rfl))
                try simp only [Act.put, List.setIfInBounds_toArray, List.set_cons_zero, List.set_cons_succ, List.getElem_toArray, List.getElem_cons_zero, List.getElem_cons_succ]
                refine wpAnyH_take (i := 2) (v := ?_) rfl (by kernel_rfl) (by kernel_rfl) (by kernel_rfl) (fun _ _ _ h => h) (Or.inl ⟨by rfl, ?_⟩) (by assumption) ?_
                rotate_left
                · (intro w hSw; (try dsimp only at hSw); go_simp; try (with_reducible rfl))
                try simp only [Act.put, List.setIfInBounds_toArray, List.set_cons_zero, List.set_cons_succ, List.getElem_toArray, List.getElem_cons_zero, List.getElem_cons_succ]
                refine wpAnyH_take (i := 3) (v := ?_) rfl (by kernel_rfl) (by kernel_rfl) (by kernel_rfl) (fun _ _ _ h => h) (Or.inl ⟨by rfl, ?_⟩) (by assumption) ?_
                rotate_left
                · (intro w hSw; (try dsimp only at hSw); go_simp; try (with_reducible rfl))
                try simp only [Act.put, List.setIfInBounds_toArray, List.set_cons_zero, List.set_cons_succ, List.getElem_toArray, List.getElem_cons_zero, List.getElem_cons_succ]
                refine wpAnyH_take (i := 4) (v := ?_) rfl (by kernel_rfl) (by kernel_rfl) (by kernel_rfl) (fun _ _ _ h => h) (Or.inl ⟨by rfl, ?_⟩) (by assumption) ?_
                rotate_left
                · (intro w hSw; (try dsimp only at hSw); go_simp; try (with_reducible rfl))
                try simp only [Act.put, List.setIfInBounds_toArray, List.set_cons_zero, List.set_cons_succ, List.getElem_toArray, List.getElem_cons_zero, List.getElem_cons_succ]
                refine wpAnyH_take (i := 5) (v := ?_) rfl (by kernel_rfl) (by kernel_rfl) (by kernel_rfl) (fun _ _ _ h => h) (Or.inl ⟨by rfl, ?_⟩) (by assumption) ?_
                rotate_left
                · (intro w hSw; (try dsimp only at hSw); go_simp; try (with_reducible rfl))
                try simp only [Act.put, List.setIfInBounds_toArray, List.set_cons_zero, List.set_cons_succ, List.getElem_toArray, List.getElem_cons_zero, List.getElem_cons_succ]
                refine wpAnyH_ready (rs := [6]) (by kernel_rfl) (by simp) ?_
                refine AllReadyH.cons rfl (fun K hK => ?_) AllReadyH.nil
                go_simp
                refine (sameT _ _ A.path _ _ _ _ _ (by rw [HPE.out]; exact ints_nil _ _) HYD.out.1.2.1.ints.1 (by rw [HPE.out]; have := HLL.out.1; rw [HPE.out] at this; simp at this ⊢ <;> omega) rfl (by omega)).mono ?_
                rintro r y2 ⟨rfl, hb6⟩
                obtain ⟨HY2⟩ : Nonempty (Hid (BS w y2 N E m A p cp q cq ∧ CB y2 X3 LA (some ⟨pb, po, none⟩) c3 q3 d3)) := ⟨⟨HYD.out.1.on hb6, HYD.out.2.on hb6⟩⟩
                clear hb6
                refine hK.out _ _ ?_ (fun hHeld => ?_)
                · exact HK13.out _ HY2.out
                clear hK K
                try simp only [Act.put, List.setIfInBounds_toArray, List.set_cons_zero, List.set_cons_succ, List.getElem_toArray, List.getElem_cons_zero, List.getElem_cons_succ]
                refine wpAnyH_take (i := 7) (v := ?_) rfl (by kernel_rfl) (by kernel_rfl) (by kernel_rfl) (fun _ _ _ h => h) (Or.inl ⟨by rfl, ?_⟩) (by assumption) ?_
                rotate_left
                · (intro w hSw; (try dsimp only at hSw); go_simp; try (with_reducible rfl))
                try simp only [Act.put, List.setIfInBounds_toArray, List.set_cons_zero, List.set_cons_succ, List.getElem_toArray, List.getElem_cons_zero, List.getElem_cons_succ]
                refine wpAnyH_take (i := 8) (v := ?_) rfl (by kernel_rfl) (by kernel_rfl) (by kernel_rfl) (fun _ _ _ h => h) (Or.inl ⟨by rfl, ?_⟩) (by assumption) ?_
                rotate_left
                · (intro w hSw; (try dsimp only at hSw); go_simp; try (with_reducible rfl))
                try simp only [Act.put, List.setIfInBounds_toArray, List.set_cons_zero, List.set_cons_succ, List.getElem_toArray, List.getElem_cons_zero, List.getElem_cons_succ]
                refine wpAnyH_take (i := 9) (v := ?_) rfl (by kernel_rfl) (by kernel_rfl) (by kernel_rfl) (fun _ _ _ h => h) (Or.inl ⟨by rfl, ?_⟩) (by assumption) ?_
                rotate_left
                · (intro w hSw; (try dsimp only at hSw); go_simp; try (with_reducible rfl))
                try simp only [Act.put, List.setIfInBounds_toArray, List.set_cons_zero, List.set_cons_succ, List.getElem_toArray, List.getElem_cons_zero, List.getElem_cons_succ]
                refine wpAnyH_take (i := 10) (v := ?_) rfl (by kernel_rfl) (by kernel_rfl) (by kernel_rfl) (fun _ _ _ h => h) (Or.inl ⟨by rfl, ?_⟩) (by assumption) ?_
                rotate_left
                · (intro w hSw; (try dsimp only at hSw); go_simp; try (with_reducible rfl))
                try simp only [Act.put, List.setIfInBounds_toArray, List.set_cons_zero, List.set_cons_succ, List.getElem_toArray, List.getElem_cons_zero, List.getElem_cons_succ]
                refine wpAnyH_take (i := 11) (v := ?_) rfl (by kernel_rfl) (by kernel_rfl) (by kernel_rfl) (fun _ _ _ h => h) (Or.inl ⟨by rfl, ?_⟩) (by assumption) ?_
                rotate_left
                · (intro w hSw; (try dsimp only at hSw); go_simp; try (with_reducible rfl))
                try simp only [Act.put, List.setIfInBounds_toArray, List.set_cons_zero, List.set_cons_succ, List.getElem_toArray, List.getElem_cons_zero, List.getElem_cons_succ]
                refine wpAnyH_take (i := 12) (v := ?_) rfl (by kernel_rfl) (by kernel_rfl) (by kernel_rfl) (fun _ _ _ h => h) (Or.inl ⟨by rfl, ?_⟩) (by assumption) ?_
                rotate_left
                · (intro w hSw; (try dsimp only at hSw); go_simp; try (with_reducible rfl))
                try simp only [Act.put, List.setIfInBounds_toArray, List.set_cons_zero, List.set_cons_succ, List.getElem_toArray, List.getElem_cons_zero, List.getElem_cons_succ]
                refine wpAnyH_ready (rs := [13]) (by kernel_rfl) (by simp) ?_
                refine AllReadyH.cons rfl (fun K hK => ?_) AllReadyH.nil
                go_simp
                refine (sameT _ _ A.tags _ _ _ _ _ (by have := HY2.out.2.2.ints.2.1; rw [HTG.out] at this; exact this) HY2.out.1.2.1.ints.2.1 (by rw [HTG.out]) rfl (by omega)).mono ?_
                rintro r y3 ⟨rfl, hb7⟩
                obtain ⟨HY3⟩ : Nonempty (Hid (BS w y3 N E m A p cp q cq ∧ CB y3 X3 LA (some ⟨pb, po, none⟩) c3 q3 d3)) := ⟨⟨HY2.out.1.on hb7, HY2.out.2.on hb7⟩⟩
                clear hb7
                refine hK.out _ _ ?_ (fun hHeld => ?_)
                · exact HK13.out _ HY3.out
                clear hK K
                try simp only [Act.put, List.setIfInBounds_toArray, List.set_cons_zero, List.set_cons_succ, List.getElem_toArray, List.getElem_cons_zero, List.getElem_cons_succ]
                refine wpAnyH_take (i := 14) (v := ?_) rfl (by kernel_rfl) (by kernel_rfl) (by kernel_rfl) (fun _ _ _ h => h) (Or.inl ⟨by rfl, ?_⟩) (by assumption) ?_
                rotate_left
                · (intro w hSw; (try dsimp only at hSw); go_simp; try (with_reducible rfl))
                try simp only [Act.put, List.setIfInBounds_toArray, List.set_cons_zero, List.set_cons_succ, List.getElem_toArray, List.getElem_cons_zero, List.getElem_cons_succ]
                refine wpAnyH_take (i := 15) (v := ?_) rfl (by kernel_rfl) (by kernel_rfl) (by kernel_rfl) (fun _ _ _ h => h) (Or.inl ⟨by rfl, ?_⟩) (by assumption) ?_
                rotate_left
                · (intro w hSw; (try dsimp only at hSw); go_simp; try (with_reducible rfl))
                try simp only [Act.put, List.setIfInBounds_toArray, List.set_cons_zero, List.set_cons_succ, List.getElem_toArray, List.getElem_cons_zero, List.getElem_cons_succ]
                refine wpAnyH_done (by kernel_rfl) ?_ _
                refine NoPanic.normal ?_
                clear hHeld
                go_wp2_with fail
                go_meet
                exact ⟨y3, HY3.out.1, rfl⟩
              · have hcl : N0 ≤ c3 := by have := HLL.out.1; omega
                have hle : (N0 : Int) ≤ (LA.path.length : Int) := by have := HLL.out.1; omega
                obtain ⟨HK13⟩ : Nonempty (Hid (∀ y, BS w y N E m A p cp q cq ∧ CB y X3 LA (some ⟨pb, po, none⟩) c3 q3 d3 → (fun w' => w'.cell? ⟨X3, 0, none⟩ = some (.slice (some ⟨pb, po, none⟩) LA.path.length c3) ∧ w'.cell? ⟨X3, 4, none⟩ = some (.slice q3 LA.tags.length d3) ∧ w'.cell? ⟨N, 0, none⟩ = some (.slice p A.path.length cp) ∧ w'.cell? ⟨N, 4, none⟩ = some (.slice q A.tags.length cq)) y)) := ⟨fun y h => ⟨h.2.1.cells.1, h.2.1.cells.2.2.2.2, h.1.1.arg.1, h.1.1.arg.2.2.2.2⟩⟩
                obtain ⟨HYD⟩ : Nonempty (Hid (BS w y1.drew N E m A p cp q cq ∧ CB y1.drew X3 LA (some ⟨pb, po, none⟩) c3 q3 d3)) := ⟨⟨HY.out.1.on (Below.refl _ _).drew, HY.out.2.on (Below.refl _ _).drew⟩⟩
                refine wp_region_noPanic ?_
                refine wp_region_held_drew (S := (fun w' => w'.cell? ⟨X3, 0, none⟩ = some (.slice (some ⟨pb, po, none⟩) LA.path.length c3) ∧ w'.cell? ⟨X3, 4, none⟩ = some (.slice q3 LA.tags.length d3) ∧ w'.cell? ⟨N, 0, none⟩ = some (.slice p A.path.length cp) ∧ w'.cell? ⟨N, 4, none⟩ = some (.slice q A.tags.length cq))) (by kernel_rfl) ?_ (fun hHeld => ?_)
                · exact HK13.out _ HYD.out
                refine wpAnyH_take (i := 0) (v := ?_) rfl (by kernel_rfl) (by kernel_rfl) (by kernel_rfl) (fun _ _ _ h => h) (Or.inl ⟨by rfl, ?_⟩) (by assumption) ?_
                rotate_left
                · (intro w hSw; (try dsimp only at hSw); go_simp; try (with_reducible rfl))
                try simp only [Act.put, List.setIfInBounds_toArray, List.set_cons_zero, List.set_cons_succ, List.getElem_toArray, List.getElem_cons_zero, List.getElem_cons_succ]
                refine wpAnyH_take (i := 1) (v := ?_) rfl (by kernel_rfl) (by kernel_rfl) (by kernel_rfl) (fun _ _ _ h => h) (Or.inl ⟨by rfl, ?_⟩) (by assumption) ?_
                rotate_left
                · (intro w hSw; (try dsimp only at hSw); go_simp; try (with_reducible rfl))
                try simp only [Act.put, List.setIfInBounds_toArray, List.set_cons_zero, List.set_cons_succ, List.getElem_toArray, List.getElem_cons_zero, List.getElem_cons_succ]
                refine wpAnyH_take (i := 2) (v := ?_) rfl (by kernel_rfl) (by kernel_rfl) (by kernel_rfl) (fun _ _ _ h => h) (Or.inl ⟨by rfl, ?_⟩) (by assumption) ?_
                rotate_left
                · (intro w hSw; (try dsimp only at hSw); go_simp; try (with_reducible rfl))
                try simp only [Act.put, List.setIfInBounds_toArray, List.set_cons_zero, List.set_cons_succ, List.getElem_toArray, List.getElem_cons_zero, List.getElem_cons_succ]
                refine wpAnyH_take (i := 3) (v := ?_) rfl (by kernel_rfl) (by kernel_rfl) (by kernel_rfl) (fun _ _ _ h => h) (Or.inl ⟨by rfl, ?_⟩) (by assumption) ?_
                rotate_left
                · (intro w hSw; (try dsimp only at hSw); go_simp; try (with_reducible rfl))
                try simp only [Act.put, List.setIfInBounds_toArray, List.set_cons_zero, List.set_cons_succ, List.getElem_toArray, List.getElem_cons_zero, List.getElem_cons_succ]
                refine wpAnyH_take (i := 4) (v := ?_) rfl (by kernel_rfl) (by kernel_rfl) (by kernel_rfl) (fun _ _ _ h => h) (Or.inl ⟨by rfl, ?_⟩) (by assumption) ?_
                rotate_left
                · (intro w hSw; (try dsimp only at hSw); go_simp; try (with_reducible rfl))
                try simp only [Act.put, List.setIfInBounds_toArray, List.set_cons_zero, List.set_cons_succ, List.getElem_toArray, List.getElem_cons_zero, List.getElem_cons_succ]
                refine wpAnyH_take (i := 5) (v := ?_) rfl (by kernel_rfl) (by kernel_rfl) (by kernel_rfl) (fun _ _ _ h => h) (Or.inl ⟨by rfl, ?_⟩) (by assumption) ?_
                rotate_left
                · (intro w hSw; (try dsimp only at hSw); go_simp; try (with_reducible rfl))
                try simp only [Act.put, List.setIfInBounds_toArray, List.set_cons_zero, List.set_cons_succ, List.getElem_toArray, List.getElem_cons_zero, List.getElem_cons_succ]
                refine wpAnyH_ready (rs := [6]) (by kernel_rfl) (by simp) ?_
                refine AllReadyH.cons rfl (fun K hK => ?_) AllReadyH.nil
                go_simp
                refine (sameT _ _ A.path _ _ _ _ _ (by have := ints_drop HYD.out.2.2.ints.1 (N0); rw [HLL.out.2] at this; exact this) HYD.out.1.2.1.ints.1 (by have := HLL.out.1; omega) rfl (by omega)).mono ?_
                rintro r y2 ⟨rfl, hb6⟩
                obtain ⟨HY2⟩ : Nonempty (Hid (BS w y2 N E m A p cp q cq ∧ CB y2 X3 LA (some ⟨pb, po, none⟩) c3 q3 d3)) := ⟨⟨HYD.out.1.on hb6, HYD.out.2.on hb6⟩⟩
                clear hb6
                refine hK.out _ _ ?_ (fun hHeld => ?_)
                · exact HK13.out _ HY2.out
                clear hK K
                try simp only [Act.put, List.setIfInBounds_toArray, List.set_cons_zero, List.set_cons_succ, List.getElem_toArray, List.getElem_cons_zero, List.getElem_cons_succ]
                refine wpAnyH_take (i := 7) (v := ?_) rfl (by kernel_rfl) (by kernel_rfl) (by kernel_rfl) (fun _ _ _ h => h) (Or.inl ⟨by rfl, ?_⟩) (by assumption) ?_
                rotate_left
                · (intro w hSw; (try dsimp only at hSw); go_simp; try (with_reducible rfl))
                try simp only [Act.put, List.setIfInBounds_toArray, List.set_cons_zero, List.set_cons_succ, List.getElem_toArray, List.getElem_cons_zero, List.getElem_cons_succ]
                refine wpAnyH_take (i := 8) (v := ?_) rfl (by kernel_rfl) (by kernel_rfl) (by kernel_rfl) (fun _ _ _ h => h) (Or.inl ⟨by rfl, ?_⟩) (by assumption) ?_
                rotate_left
                · (intro w hSw; (try dsimp only at hSw); go_simp; try (with_reducible rfl))
                try simp only [Act.put, List.setIfInBounds_toArray, List.set_cons_zero, List.set_cons_succ, List.getElem_toArray, List.getElem_cons_zero, List.getElem_cons_succ]
                refine wpAnyH_take (i := 9) (v := ?_) rfl (by kernel_rfl) (by kernel_rfl) (by kernel_rfl) (fun _ _ _ h => h) (Or.inl ⟨by rfl, ?_⟩) (by assumption) ?_
                rotate_left
                · (intro w hSw; (try dsimp only at hSw); go_simp; try (with_reducible rfl))
                try simp only [Act.put, List.setIfInBounds_toArray, List.set_cons_zero, List.set_cons_succ, List.getElem_toArray, List.getElem_cons_zero, List.getElem_cons_succ]
                refine wpAnyH_take (i := 10) (v := ?_) rfl (by kernel_rfl) (by kernel_rfl) (by kernel_rfl) (fun _ _ _ h => h) (Or.inl ⟨by rfl, ?_⟩) (by assumption) ?_
                rotate_left
                · (intro w hSw; (try dsimp only at hSw); go_simp; try (with_reducible rfl))
                try simp only [Act.put, List.setIfInBounds_toArray, List.set_cons_zero, List.set_cons_succ, List.getElem_toArray, List.getElem_cons_zero, List.getElem_cons_succ]
                refine wpAnyH_take (i := 11) (v := ?_) rfl (by kernel_rfl) (by kernel_rfl) (by kernel_rfl) (fun _ _ _ h => h) (Or.inl ⟨by rfl, ?_⟩) (by assumption) ?_
                rotate_left
                · (intro w hSw; (try dsimp only at hSw); go_simp; try (with_reducible rfl))
                try simp only [Act.put, List.setIfInBounds_toArray, List.set_cons_zero, List.set_cons_succ, List.getElem_toArray, List.getElem_cons_zero, List.getElem_cons_succ]
                refine wpAnyH_take (i := 12) (v := ?_) rfl (by kernel_rfl) (by kernel_rfl) (by kernel_rfl) (fun _ _ _ h => h) (Or.inl ⟨by rfl, ?_⟩) (by assumption) ?_
                rotate_left
                · (intro w hSw; (try dsimp only at hSw); go_simp; try (with_reducible rfl))
                try simp only [Act.put, List.setIfInBounds_toArray, List.set_cons_zero, List.set_cons_succ, List.getElem_toArray, List.getElem_cons_zero, List.getElem_cons_succ]
                refine wpAnyH_ready (rs := [13]) (by kernel_rfl) (by simp) ?_
                refine AllReadyH.cons rfl (fun K hK => ?_) AllReadyH.nil
                go_simp
                refine (sameT _ _ A.tags _ _ _ _ _ (by have := HY2.out.2.2.ints.2.1; rw [HTG.out] at this; exact this) HY2.out.1.2.1.ints.2.1 (by rw [HTG.out]) rfl (by omega)).mono ?_
                rintro r y3 ⟨rfl, hb7⟩
                obtain ⟨HY3⟩ : Nonempty (Hid (BS w y3 N E m A p cp q cq ∧ CB y3 X3 LA (some ⟨pb, po, none⟩) c3 q3 d3)) := ⟨⟨HY2.out.1.on hb7, HY2.out.2.on hb7⟩⟩
                clear hb7
                refine hK.out _ _ ?_ (fun hHeld => ?_)
                · exact HK13.out _ HY3.out
                clear hK K
                try simp only [Act.put, List.setIfInBounds_toArray, List.set_cons_zero, List.set_cons_succ, List.getElem_toArray, List.getElem_cons_zero, List.getElem_cons_succ]
                refine wpAnyH_take (i := 14) (v := ?_) rfl (by kernel_rfl) (by kernel_rfl) (by kernel_rfl) (fun _ _ _ h => h) (Or.inl ⟨by rfl, ?_⟩) (by assumption) ?_
                rotate_left
                · (intro w hSw; (try dsimp only at hSw); go_simp; try (with_reducible rfl))
                try simp only [Act.put, List.setIfInBounds_toArray, List.set_cons_zero, List.set_cons_succ, List.getElem_toArray, List.getElem_cons_zero, List.getElem_cons_succ]
                refine wpAnyH_take (i := 15) (v := ?_) rfl (by kernel_rfl) (by kernel_rfl) (by kernel_rfl) (fun _ _ _ h => h) (Or.inl ⟨by rfl, ?_⟩) (by assumption) ?_
                rotate_left
                · (intro w hSw; (try dsimp only at hSw); go_simp; try (with_reducible rfl))
                try simp only [Act.put, List.setIfInBounds_toArray, List.set_cons_zero, List.set_cons_succ, List.getElem_toArray, List.getElem_cons_zero, List.getElem_cons_succ]
                refine wpAnyH_done (by kernel_rfl) ?_ _
                refine NoPanic.normal ?_
                clear hHeld
                go_wp2_with fail
                go_meet
                exact ⟨y3, HY3.out.1, rfl⟩
      case rest =>
        obtain ⟨wx, HSX, hX⟩ := hcut
        subst hX
        obtain ⟨HTG⟩ : Nonempty (Hid (Calls _ _ _ _ _)) := ⟨tag_any _ A tg E m wx HSX.out.2.2.1 HSX.out.2.1 (by omega) (by omega)⟩
        obtain ⟨tc, htc⟩ : ∃ c, Hid ((tagC A tg).toNat = c) := ⟨_, show _ = _ from rfl⟩
        obtain ⟨TA, hTA⟩ : ∃ c, Hid ((if tagC A tg = 0 then tagA A tg else noneA) = c) := ⟨_, show _ = _ from rfl⟩
        rw [show (tagC A tg).toNat = tc from htc.out, show (if tagC A tg = 0 then tagA A tg else noneA) = TA from hTA.out] at HTG
        obtain ⟨a0, a1, a2, a3, a4⟩ := HSX.out.1.arg
        clear HS9 HBZ
        go_wp2_with fail
        refine HTG.out.mono ?_
        rintro e z1 ⟨⟨v4, rfl, hk1⟩, hb1⟩
        obtain ⟨HZ1⟩ : Nonempty (Hid (BS w z1 N E m A p cp q cq)) := ⟨HSX.out.on hb1⟩
        have hk1' := hk1
        obtain ⟨p4, c4, q4, d4, rfl, -, -, -, -⟩ := hk1
        obtain ⟨Z2, hZ2⟩ : ∃ W, Hid (z1.alloc (.cells #[.slice p4 TA.path.length c4, .int .i64 TA.pref, .int .i64 TA.med, .int .i64 TA.org, .slice q4 TA.tags.length d4] 24) = W) := ⟨_, show _ = _ from rfl⟩
        obtain ⟨X4, hX4⟩ : ∃ X, Hid (z1.heap.size = X) := ⟨_, show _ = _ from rfl⟩
        obtain ⟨HZ2⟩ : Nonempty (Hid (BS w Z2 N E m A p cp q cq ∧ CB Z2 X4 TA p4 c4 q4 d4)) := ⟨by
          rw [← show _ = Z2 from hZ2.out, ← show z1.heap.size = X4 from hX4.out]; exact ⟨HZ1.out.on (below_alloc _ _), cb_new hk1'⟩⟩
        clear hb1 hk1' HTG HSX a0 a1 a2 a3 a4
        cases tc with
        | succ tc =>
          have hne : ¬ tagC A tg = 0 := by have := htc.out; omega
          obtain rfl : TA = noneA := by rw [← hTA.out, if_neg hne]
          clear hne htc hTA
          simp only [ev]
          obtain ⟨u4, hu4⟩ : ∃ u, Hid (E tc = u) := ⟨_, show _ = _ from rfl⟩
          rw [show E tc = u4 from hu4.out]
          go_upto_region 16 with fail
          rw [show z1.alloc (.cells #[.slice p4 noneA.path.length c4, .int .i64 noneA.pref, .int .i64 noneA.med, .int .i64 noneA.org, .slice q4 noneA.tags.length d4] 24) = Z2 from hZ2.out, show z1.heap.size = X4 from hX4.out]
          obtain ⟨b0, b1, b2, b3, b4⟩ := HZ2.out.2.1.cells
          simp only [noneA, List.length_nil] at b0 b1
          clear hZ2 hX4
          go_wp2_with fail
          go_ret
          exact ⟨rfl, by rw [show w.heap.size = N from hN.out]; exact HZ2.out.1.1.2⟩
        | zero =>
          have h0 : tagC A tg = 0 := by have := htc.out; have := tagC_nonneg A tg; omega
          obtain rfl : TA = tagA A tg := by rw [← hTA.out, if_pos h0]
          obtain ⟨HQ⟩ : Nonempty (Hid (RightA (tagA A tg) ∧ (tagC (tagA A tg) tg = 0 ∧ tagA (tagA A tg) tg = tagA A tg) ∧ (tagA A tg).tags.count tg = 1 ∧ (∀ y ∈ A.tags, (tagA A tg).tags.contains y = true) ∧ (tagA A tg).tags.length ≤ A.tags.length + 1)) := ⟨⟨tag_right HA.out h0, tag_again HA.out h0, tag_count HA.out tg, fun y hy => tag_has A tg y hy, (tagIns_len A.tags tg).1⟩⟩
          obtain ⟨TA, hTA'⟩ : ∃ T, Hid (tagA A tg = T) := ⟨_, show _ = _ from rfl⟩
          rw [show tagA A tg = TA from hTA'.out] at HQ HZ2 hZ2 ⊢
          clear htc hTA h0
          simp only [ev]
          go_upto_region 16 with fail
          rw [show z1.alloc (.cells #[.slice p4 TA.path.length c4, .int .i64 TA.pref, .int .i64 TA.med, .int .i64 TA.org, .slice q4 TA.tags.length d4] 24) = Z2 from hZ2.out, show z1.heap.size = X4 from hX4.out]
          obtain ⟨b0, b1, b2, b3, b4⟩ := HZ2.out.2.1.cells
          have htl4 : TA.tags.length ≤ 16 := by have := HQ.out.2.2.2.2; omega
          clear hZ2 hX4
          go_wp2_with fail
          go_loop [14, 15] (fun mn i => ∃ k : Nat, i = .int .i64 k ∧ k ≤ TA.tags.length ∧ ∃ c : Nat, mn = .int .i64 (c : Int) ∧ c ≤ k ∧ Hid ((TA.tags.take k).count tg = c)) (fun _ i => TA.tags.length - (intOf i).toNat)
          case atStart => exact ⟨0, rfl, Nat.zero_le _, 0, rfl, Nat.le_refl _, by simp [Hid]⟩
          case round =>
            obtain ⟨k, rfl, hk, c, rfl, hck, HCN⟩ := hrel
            by_cases hlt : k < TA.tags.length
            · have q3 : (k : Int) < TA.tags.length := by omega
              obtain ⟨pb, po, rfl, e0⟩ := HZ2.out.2.2.ints.2.1 k hlt
              obtain ⟨y, hy⟩ : ∃ y, Hid (TA.tags[k] = y) := ⟨_, show _ = _ from rfl⟩
              rw [show TA.tags[k] = y from hy.out] at e0
              have hct := count_take TA.tags tg k hlt
              rw [show TA.tags[k] = y from hy.out, HCN.out] at hct
              obtain ⟨HCT⟩ : Nonempty (Hid (_ = _)) := ⟨hct⟩
              clear hct
              by_cases hyt : y = tg
              · have hyt' : (y == tg) = true := by rw [beq_iff_eq]; exact hyt
                obtain ⟨HNX⟩ : Nonempty (Hid ((TA.tags.take (k + 1)).count tg = c + 1)) := ⟨by show _ = _; rw [HCT.out, if_pos hyt]⟩
                clear hyt HCT
                go_wp2_with fail
                go_round
                case rel => exact ⟨k + 1, by go_num, by omega, c + 1, by go_num, by omega, HNX⟩
                case measure => simp [intOf]; omega
              · have hyt' : (y == tg) = false := beq_eq_false_iff_ne.2 hyt
                obtain ⟨HNX⟩ : Nonempty (Hid ((TA.tags.take (k + 1)).count tg = c)) := ⟨by show _ = _; rw [HCT.out, if_neg hyt]; rfl⟩
                clear hyt HCT
                go_wp2_with fail
                go_round
                case rel => exact ⟨k + 1, by go_num, by omega, c, rfl, by omega, HNX⟩
                case measure => simp [intOf]; omega
            · obtain rfl : k = TA.tags.length := by omega
              obtain rfl : c = 1 := by have := HCN.out; rw [List.take_length] at this; have := HQ.out.2.2.1; omega
              clear HCN
              go_wp2_with fail
              clear b0 b1 b2 b3 b4
              go_loopw [16] (fun i wr => ∃ k : Nat, i = .int .i64 k ∧ k ≤ A.tags.length ∧ Hid (BS w wr N E m A p cp q cq ∧ CB wr X4 TA p4 c4 q4 d4)) (fun i _ => A.tags.length - (intOf i).toNat)
              case atStart => exact ⟨0, rfl, Nat.zero_le _, HZ2⟩
              case round =>
                obtain ⟨k, rfl, hk, HZ⟩ := hrel
                obtain ⟨a0, a1, a2, a3, a4⟩ := HZ.out.1.1.arg
                obtain ⟨b0, b1, b2, b3, b4⟩ := HZ.out.2.1.cells
                by_cases hlt : k < A.tags.length
                · have q3 : (k : Int) < A.tags.length := by omega
                  obtain ⟨pb, po, rfl, e0⟩ := HZ.out.1.2.1.ints.2.1 k hlt
                  obtain ⟨y, hy⟩ : ∃ y, Hid (A.tags[k] = y) := ⟨_, show _ = _ from rfl⟩
                  rw [show A.tags[k] = y from hy.out] at e0
                  obtain ⟨HSP⟩ : Nonempty (Hid (∀ wr, BS w wr N E m A p cp (some ⟨pb, po, none⟩) cq ∧ CB wr X4 TA p4 c4 q4 d4 → wr.cell? ⟨N, 4, none⟩ = some (.slice (some ⟨pb, po, none⟩) A.tags.length cq) ∧ wr.cell? ⟨pb, po + k, none⟩ = some (.int .i64 y) ∧ wr.cell? ⟨X4, 4, none⟩ = some (.slice q4 TA.tags.length d4))) := ⟨fun wr h => by
                    obtain ⟨pb', po', e, c0⟩ := h.1.2.1.ints.2.1 k hlt
                    simp only [Option.some.injEq, Addr.mk.injEq, and_true] at e
                    obtain ⟨rfl, rfl⟩ := e
                    rw [show A.tags[k] = y from hy.out] at c0
                    exact ⟨h.1.1.arg.2.2.2.2, c0, h.2.1.cells.2.2.2.2⟩⟩
                  obtain ⟨HZD⟩ : Nonempty (Hid (BS w wr.drew N E m A p cp (some ⟨pb, po, none⟩) cq ∧ CB wr.drew X4 TA p4 c4 q4 d4)) := ⟨⟨HZ.out.1.on (Below.refl _ _).drew, HZ.out.2.on (Below.refl _ _).drew⟩⟩
                  obtain ⟨HIN⟩ : Nonempty (Hid (Calls _ _ _ _ _)) := ⟨rInInts_any y q4 TA.tags _ d4 wr.drew HZD.out.2.2.ints.2.1 rfl (by omega)⟩
                  rw [show TA.tags.contains y = true from HQ.out.2.2.2.1 y (by rw [← hy.out]; exact List.getElem_mem hlt)] at HIN
                  go_upto_region 27 with fail
                  refine wp_region_noPanic ?_
                  refine wp_region_held_drew (S := (fun w' => w'.cell? ⟨N, 4, none⟩ = some (.slice (some ⟨pb, po, none⟩) A.tags.length cq) ∧ w'.cell? ⟨pb, po + k, none⟩ = some (.int .i64 y) ∧ w'.cell? ⟨X4, 4, none⟩ = some (.slice q4 TA.tags.length d4))) (by kernel_rfl) ?_ (fun hHeld => ?_)
                  · exact HSP.out _ HZD.out
                  refine wpAnyH_take (i := 0) (v := ?_) rfl (by kernel_rfl) (by kernel_rfl) (by kernel_rfl) (fun _ _ _ h => h) (Or.inl ⟨by rfl, ?_⟩) (by assumption) ?_
                  rotate_left
                  · (intro w hSw; (try dsimp only at hSw); go_simp; try (with_reducible rfl))
                  try simp only [Act.put, List.setIfInBounds_toArray, List.set_cons_zero, List.set_cons_succ, List.getElem_toArray, List.getElem_cons_zero, List.getElem_cons_succ]
                  refine wpAnyH_take (i := 1) (v := ?_) rfl (by kernel_rfl) (by kernel_rfl) (by kernel_rfl) (fun _ _ _ h => h) (Or.inl ⟨by rfl, ?_⟩) (by assumption) ?_
                  rotate_left
                  · (intro w hSw; (try dsimp only at hSw); go_simp; try (with_reducible rfl))
                  try simp only [Act.put, List.setIfInBounds_toArray, List.set_cons_zero, List.set_cons_succ, List.getElem_toArray, List.getElem_cons_zero, List.getElem_cons_succ]
                  refine wpAnyH_take (i := 2) (v := ?_) rfl (by kernel_rfl) (by kernel_rfl) (by kernel_rfl) (fun _ _ _ h => h) (Or.inl ⟨by rfl, ?_⟩) (by assumption) ?_
                  rotate_left
                  · (intro w hSw; (try dsimp only at hSw); go_simp; try (with_reducible rfl))
                  try simp only [Act.put, List.setIfInBounds_toArray, List.set_cons_zero, List.set_cons_succ, List.getElem_toArray, List.getElem_cons_zero, List.getElem_cons_succ]
                  refine wpAnyH_take (i := 3) (v := ?_) rfl (by kernel_rfl) (by kernel_rfl) (by kernel_rfl) (fun _ _ _ h => h) (Or.inl ⟨by rfl, ?_⟩) (by assumption) ?_
                  rotate_left
                  · (intro w hSw; (try dsimp only at hSw); go_simp; try (with_reducible rfl))
                  try simp only [Act.put, List.setIfInBounds_toArray, List.set_cons_zero, List.set_cons_succ, List.getElem_toArray, List.getElem_cons_zero, List.getElem_cons_succ]
                  refine wpAnyH_take (i := 4) (v := ?_) rfl (by kernel_rfl) (by kernel_rfl) (by kernel_rfl) (fun _ _ _ h => h) (Or.inl ⟨by rfl, ?_⟩) (by assumption) ?_
                  rotate_left
                  · (intro w hSw; (try dsimp only at hSw); go_simp; try (with_reducible rfl))
                  try simp only [Act.put, List.setIfInBounds_toArray, List.set_cons_zero, List.set_cons_succ, List.getElem_toArray, List.getElem_cons_zero, List.getElem_cons_succ]
                  refine wpAnyH_take (i := 5) (v := ?_) rfl (by kernel_rfl) (by kernel_rfl) (by kernel_rfl) (fun _ _ _ h => h) (Or.inl ⟨by rfl, ?_⟩) (by assumption) ?_
                  rotate_left
                  · (intro w hSw; (try dsimp only at hSw); go_simp; try (with_reducible rfl))
                  try simp only [Act.put, List.setIfInBounds_toArray, List.set_cons_zero, List.set_cons_succ, List.getElem_toArray, List.getElem_cons_zero, List.getElem_cons_succ]
                  refine wpAnyH_take (i := 6) (v := ?_) rfl (by kernel_rfl) (by kernel_rfl) (by kernel_rfl) (fun _ _ _ h => h) (Or.inl ⟨by rfl, ?_⟩) (by assumption) ?_
                  rotate_left
                  · (intro w hSw; (try dsimp only at hSw); go_simp; try (with_reducible rfl))
                  try simp only [Act.put, List.setIfInBounds_toArray, List.set_cons_zero, List.set_cons_succ, List.getElem_toArray, List.getElem_cons_zero, List.getElem_cons_succ]
                  refine wpAnyH_ready (rs := [7]) (by kernel_rfl) (by simp) ?_
                  refine AllReadyH.cons rfl (fun K hK => ?_) AllReadyH.nil
                  go_simp
                  refine HIN.out.mono ?_
                  rintro r z3 ⟨rfl, hb3⟩
                  obtain ⟨HZ3⟩ : Nonempty (Hid (BS w z3 N E m A p cp (some ⟨pb, po, none⟩) cq ∧ CB z3 X4 TA p4 c4 q4 d4)) := ⟨⟨HZD.out.1.on hb3, HZD.out.2.on hb3⟩⟩
                  clear hb3
                  refine hK.out _ _ ?_ (fun hHeld => ?_)
                  · exact HSP.out _ HZ3.out
                  clear hK K
                  try simp only [Act.put, List.setIfInBounds_toArray, List.set_cons_zero, List.set_cons_succ, List.getElem_toArray, List.getElem_cons_zero, List.getElem_cons_succ]
                  refine wpAnyH_take (i := 8) (v := ?_) rfl (by kernel_rfl) (by kernel_rfl) (by kernel_rfl) (fun _ _ _ h => h) (Or.inl ⟨by rfl, ?_⟩) (by assumption) ?_
                  rotate_left
                  · (intro w hSw; (try dsimp only at hSw); go_simp; try (with_reducible rfl))
                  try simp only [Act.put, List.setIfInBounds_toArray, List.set_cons_zero, List.set_cons_succ, List.getElem_toArray, List.getElem_cons_zero, List.getElem_cons_succ]
                  refine wpAnyH_done (by kernel_rfl) ?_ _
                  refine NoPanic.normal ?_
                  clear hHeld a0 a1 a2 a3 a4 b0 b1 b2 b3 b4 e0
                  go_wp2_with fail
                  go_roundw
                  case rel => exact ⟨k + 1, by go_num, by omega, HZ3⟩
                  case measure => simp [intOf]; omega
                · obtain rfl : k = A.tags.length := by omega
                  obtain ⟨HTG2⟩ : Nonempty (Hid (Calls Tryz.prog 15 #[.agg #[.slice p4 TA.path.length c4, .int .i64 TA.pref, .int .i64 TA.med, .int .i64 TA.org, .slice q4 TA.tags.length d4], .int .i64 tg] wr fun r w' => (∃ v', r = .returned (.tuple #[v', .nilIface]) ∧ AttrK w' v' TA) ∧ Below wr.heap.size wr w')) := ⟨by
                    have := tag_any _ TA tg E m wr HZ.out.1.2.2.1 HZ.out.2.2 (by have := HQ.out.1.path; omega) (by omega)
                    rw [HQ.out.2.1.1, HQ.out.2.1.2] at this
                    exact this⟩
                  go_wp2_with fail
                  refine HTG2.out.mono ?_
                  rintro e z3 ⟨⟨v6, rfl, hk3⟩, hb3⟩
                  obtain ⟨HZ3⟩ : Nonempty (Hid (BS w z3 N E m A p cp q cq ∧ CB z3 X4 TA p4 c4 q4 d4)) := ⟨⟨HZ.out.1.on hb3, HZ.out.2.on hb3⟩⟩
                  have hk3' := hk3
                  obtain ⟨p5, c5, q5, d5, rfl, -, -, -, -⟩ := hk3
                  obtain ⟨Z4, hZ4⟩ : ∃ W, Hid (z3.alloc (.cells #[.slice p5 TA.path.length c5, .int .i64 TA.pref, .int .i64 TA.med, .int .i64 TA.org, .slice q5 TA.tags.length d5] 24) = W) := ⟨_, show _ = _ from rfl⟩
                  obtain ⟨X5, hX5⟩ : ∃ X, Hid (z3.heap.size = X) := ⟨_, show _ = _ from rfl⟩
                  obtain ⟨HZ4⟩ : Nonempty (Hid (BS w Z4 N E m A p cp q cq ∧ CB Z4 X4 TA p4 c4 q4 d4 ∧ CB Z4 X5 TA p5 c5 q5 d5)) := ⟨by
                    rw [← show _ = Z4 from hZ4.out, ← show z3.heap.size = X5 from hX5.out]; exact ⟨HZ3.out.1.on (below_alloc _ _), HZ3.out.2.on (below_alloc _ _), cb_new hk3'⟩⟩
                  clear hb3 hk3' HTG2 a0 a1 a2 a3 a4 b0 b1 b2 b3 b4
                  go_upto_region 30 with fail
                  rw [show z3.alloc (.cells #[.slice p5 TA.path.length c5, .int .i64 TA.pref, .int .i64 TA.med, .int .i64 TA.org, .slice q5 TA.tags.length d5] 24) = Z4 from hZ4.out, show z3.heap.size = X5 from hX5.out]
                  clear hZ4 hX5
                  obtain ⟨b0, b1, b2, b3, b4⟩ := HZ4.out.2.1.1.cells
                  obtain ⟨HCK⟩ : Nonempty (Hid (Calls _ _ _ _ _)) := ⟨aCheck_any _ TA E m Z4 HZ4.out.1.2.2.1 HZ4.out.2.1.2.attr (by have := HQ.out.1.path; omega) (by omega)⟩
                  rw [fault_of_right HQ.out.1] at HCK
                  go_wp2_with fail
                  refine HCK.out.mono ?_
                  rintro e z5 ⟨⟨v7, rfl, hv7⟩, hb5⟩
                  rcases isErr_cases hv7 with ⟨-, rfl⟩ | ⟨h0, -⟩
                  case inr => exact absurd h0 (by simp)
                  obtain ⟨HZ5⟩ : Nonempty (Hid (BS w z5 N E m A p cp q cq ∧ CB z5 X4 TA p4 c4 q4 d4 ∧ CB z5 X5 TA p5 c5 q5 d5)) := ⟨⟨HZ4.out.1.on hb5, HZ4.out.2.1.on hb5, HZ4.out.2.2.on hb5⟩⟩
                  clear hb5 hv7 HCK b0 b1 b2 b3 b4
                  obtain ⟨b0, b1, b2, b3, b4⟩ := HZ5.out.2.1.1.cells
                  obtain ⟨f0, f1, f2, f3, f4⟩ := HZ5.out.2.2.1.cells
                  obtain ⟨HSM⟩ : Nonempty (Hid (Calls _ _ _ _ _)) := ⟨same_any _ _ TA TA z5 HZ5.out.2.2.2.attr HZ5.out.2.1.2.attr (by have := HQ.out.1.path; omega) (by omega) (by have := HQ.out.1.path; omega) (by omega)⟩
                  rw [show decide (TA = TA) = true from by simp] at HSM
                  go_wp2_with fail
                  refine HSM.out.mono ?_
                  rintro e z6 ⟨rfl, hb6⟩
                  obtain ⟨HZ6⟩ : Nonempty (Hid (BS w z6 N E m A p cp q cq ∧ CB z6 X4 TA p4 c4 q4 d4)) := ⟨⟨HZ5.out.1.on hb6, HZ5.out.2.1.on hb6⟩⟩
                  clear hb6 HSM b0 b1 b2 b3 b4 f0 f1 f2 f3 f4
                  obtain ⟨a0, a1, a2, a3, a4⟩ := HZ6.out.1.1.arg
                  obtain ⟨b0, b1, b2, b3, b4⟩ := HZ6.out.2.1.cells
                  have gl : decide ((TA.tags.length : Int) ≤ (A.tags.length : Int) + 1) = true := decide_eq_true (by have := HQ.out.2.2.2.2; omega)
                  have gl2 : (TA.tags.length : Int) ≤ (A.tags.length : Int) + 1 := by have := HQ.out.2.2.2.2; omega
                  go_wp2_with fail
                  go_ret
                  exact ⟨rfl, by rw [show w.heap.size = N from hN.out]; exact HZ6.out.1.1.2⟩
end Go.Proofs.YtbfdgflbflajdaaGreatDoor
