/-
  The first of rules that fits: package rule's question (Apply's closure), and slices.IndexFunc over it; checkAll.
-/
import Derived.Test.YtnifhaopjhgmnaaDoorRuleFits
namespace Go.Proofs.YtnifhaopjhgmnaaDoor
open Go.RowKit

theorem enters_apply : ∀ args w, (callFunc 15 args).run Tryd.prog w = .ok (.enter 15 args) w := fun args w => by kernel_rfl
set_option linter.unusedVariables false in
set_option maxRecDepth 100000 in
set_option maxHeartbeats 1000000 in
theorem asked_fits (r : Rl) (ta tn : Int) (v : Value) (A : At) (p : Option Addr) (cp : Nat) (q : Option Addr) (cq : Nat) (B1 B2 : Nat) (E : Nat → Addr) (m : Int) (w : World) (hE : RuleEnv w E m) (i1 : Ints w p A.path) (i2 : Ints w q A.tags) (h1 : A.path.length ≤ 1000000) (h2 : A.tags.length ≤ 1000000)
    (hp : w.heap[B1]? = some (.cells #[.int .i64 ta, .int .i64 tn] 24 (0, 0))) (ha : w.heap[B2]? = some (.cells #[.slice p A.path.length cp, .int .i64 A.pref, .int .i64 A.med, .int .i64 A.org, .slice q A.tags.length cq] 27 (0, 0))) :
    Calls Tryd.prog 15 #[rlV r, .pointer (some ⟨B1, 0, none⟩), .pointer (some ⟨B2, 0, none⟩)] w fun e w' => e = .returned (.bool (fitsB r ta tn A)) ∧ Below w.heap.size w w' := by
  obtain ⟨HC⟩ : Nonempty (Hid (Calls _ _ _ _ _)) := ⟨fits_any r ta tn (.agg #[.slice p A.path.length cp, .int .i64 A.pref, .int .i64 A.med, .int .i64 A.org, .slice q A.tags.length cq]) A E m _ (hE.below (rule_boxed w r).1) ⟨p, cp, q, cq, rfl, i1.below (rule_boxed w r).1, i2.below (rule_boxed w r).1⟩ h1 h2⟩
  have l1 := (Array.getElem?_eq_some_iff.1 hp).1
  have l2 := (Array.getElem?_eq_some_iff.1 ha).1
  have d0 : w.cell? ⟨B1, 0, none⟩ = some (.int .i64 ta) := by simp [World.cell?, hp]
  have d1 : w.cell? ⟨B1, 1, none⟩ = some (.int .i64 tn) := by simp [World.cell?, hp]
  have e0 : w.cell? ⟨B2, 0, none⟩ = some (.slice p A.path.length cp) := by simp [World.cell?, ha]
  have e1 : w.cell? ⟨B2, 1, none⟩ = some (.int .i64 A.pref) := by simp [World.cell?, ha]
  have e2 : w.cell? ⟨B2, 2, none⟩ = some (.int .i64 A.med) := by simp [World.cell?, ha]
  have e3 : w.cell? ⟨B2, 3, none⟩ = some (.int .i64 A.org) := by simp [World.cell?, ha]
  have e4 : w.cell? ⟨B2, 4, none⟩ = some (.slice q A.tags.length cq) := by simp [World.cell?, ha]
  obtain ⟨bf, hbf⟩ : ∃ b, Hid (fitsB r ta tn A = b) := ⟨_, show _ = _ from rfl⟩
  rw [show fitsB r ta tn A = bf from hbf.out] at HC ⊢
  obtain ⟨HB⟩ : Nonempty (Hid (Below w.heap.size w _)) := ⟨(rule_boxed w r).1⟩
  unfold rlV at HC ⊢
  clear hE i1 i2 h1 h2 hp ha hbf
  go_enter Tryd.func15, Tryd.ntmps15
  go_wp2_with fail
  refine HC.out.mono ?_
  rintro e w1 ⟨rfl, hb1⟩
  obtain ⟨HB1⟩ : Nonempty (Hid (Below w.heap.size w w1)) := ⟨HB.out.trans (hb1.mono HB.out.size)⟩
  clear hb1
  go_wp2_with fail
  go_ret
  exact ⟨rfl, HB1.out⟩

/-- a question of rules: what it answers, in whatever memory grew out of w. -/
structure AskR (f : Nat) (cs : Array Value) (q : Rl → Bool) (w : World) : Prop where
  enters : ∀ args w, (callFunc f args).run Tryd.prog w = .ok (.enter f args) w
  says : ∀ r W, Below w.heap.size w W → Calls Tryd.prog f (#[rlV r] ++ cs) W fun e w' => e = .returned (.bool (q r)) ∧ Below W.heap.size W w'
/-- the first place of rules at which a question is answered yes, or their number. -/
def firstR (q : Rl → Bool) (L : List Rl) : Nat := firstN (fun k => q (ruleN L k)) L.length
def idxR (q : Rl → Bool) (L : List Rl) : Int := if firstR q L < L.length then (firstR q L : Int) else -1
set_option linter.unusedVariables false in
set_option maxRecDepth 100000 in
set_option maxHeartbeats 4000000 in
theorem index_any (p : Option Addr) (L : List Rl) (cp : Nat) (f : Nat) (cs : Array Value) (q : Rl → Bool) (w : World) (h : Rules w p L) (hq : AskR f cs q w) (hl : L.length ≤ 1000000) :
    Calls Tryd.prog 14 #[.slice p L.length cp, .func (.func f) #[] cs] w fun e w' => e = .returned (.int .i64 (idxR q L)) ∧ Below w.heap.size w w' := by
  have heg := hq.enters
  obtain ⟨HQ⟩ : Nonempty (Hid (AskR f cs q w ∧ Rules w p L)) := ⟨⟨hq, h⟩⟩
  obtain ⟨B, hB⟩ : ∃ b, Hid (w.heap.size = b) := ⟨_, show _ = _ from rfl⟩
  rw [show w.heap.size = B from hB.out]
  obtain ⟨z, hz⟩ : ∃ b, Hid (idxR q L = b) := ⟨_, show _ = _ from rfl⟩
  rw [show idxR q L = z from hz.out]
  clear hq h
  go_enter Tryd.func14, Tryd.ntmps14
  go_wp2_with fail
  go_loopw [5, 8] (fun _ i wr => ∃ (j : Nat), i = .int .i64 j ∧ Hid (j ≤ firstR q L ∧ Below B w wr) ∧ j ≤ L.length) (fun _ i _ => L.length - (intOf i).toNat)
  case atStart => exact ⟨0, rfl, ⟨Nat.zero_le _, Below.refl _ _⟩, Nat.zero_le _⟩
  case round =>
    obtain ⟨j, rfl, HK, hjl⟩ := hrel
    by_cases hlt : j < L.length
    · have q3 : (j : Int) < L.length := by omega
      have hbw : Below w.heap.size w wr := by rw [show w.heap.size = B from hB.out]; exact HK.out.2
      obtain ⟨b, o, rfl, x0⟩ := HQ.out.2 j hlt
      obtain ⟨d0, d1, d2, d3, d4, d5, d6, d7, d8, d9, d10⟩ := (x0.below hbw).cells
      obtain ⟨r, hr⟩ : ∃ r, Hid (L[j] = r) := ⟨_, show _ = _ from rfl⟩
      rw [show L[j] = r from hr.out] at d0 d1 d2 d3 d4 d5 d6 d7 d8 d9 d10
      have hrn : ruleN L j = r := by rw [ruleN_at L j hlt, hr.out]
      obtain ⟨HC⟩ : Nonempty (Hid (Calls _ _ _ _ _)) := ⟨HQ.out.1.says r wr hbw⟩
      unfold rlV at HC
      cases hqr : q r with
      | true =>
        rw [hqr] at HC
        obtain rfl : (j : Int) = z := by
          rw [← hz.out]
          have : firstR q L = j := firstN_here HK.out.1 (by simp [hrn, hqr])
          unfold idxR
          rw [this, if_pos hlt]
        clear x0 hqr hrn
        go_wp2_with fail
        refine HC.out.mono ?_
        rintro e w1 ⟨rfl, hb1⟩
        obtain ⟨HB1⟩ : Nonempty (Hid (Below B w w1)) := ⟨HK.out.2.trans (hb1.mono (by rw [← show w.heap.size = B from hB.out]; exact hbw.size))⟩
        clear hb1 d0 d1 d2 d3 d4 d5 d6 d7 d8 d9 d10
        go_wp2_with fail
        go_ret
        exact ⟨rfl, HB1.out⟩
      | false =>
        rw [hqr] at HC
        obtain ⟨HN⟩ : Nonempty (Hid (j + 1 ≤ firstR q L)) := ⟨firstN_step HK.out.1 hlt (by simp [hrn, hqr])⟩
        clear x0 hqr hrn
        go_wp2_with fail
        refine HC.out.mono ?_
        rintro e w1 ⟨rfl, hb1⟩
        obtain ⟨HB1⟩ : Nonempty (Hid (Below B w w1)) := ⟨HK.out.2.trans (hb1.mono (by rw [← show w.heap.size = B from hB.out]; exact hbw.size))⟩
        clear hb1 d0 d1 d2 d3 d4 d5 d6 d7 d8 d9 d10 hbw
        go_wp2_with fail
        go_roundw
        case rel => exact ⟨j + 1, by go_num, ⟨HN.out, HB1.out⟩, by omega⟩
        case measure => simp [intOf]; omega
    · obtain rfl : j = L.length := by omega
      obtain rfl : (-1 : Int) = z := by
        rw [← hz.out]
        have : firstR q L = L.length := firstN_end HK.out.1
        unfold idxR
        rw [this, if_neg (by omega)]
      go_wp2_with fail
      go_ret
      exact ⟨rfl, HK.out.2⟩

/-- Bare of nil. -/
theorem bare_nil (w : World) : Calls Tryd.prog 26 #[.nilIface] w fun r w' => r = .returned .nilIface ∧ Below w.heap.size w w' := by
  go_enter Tryd.func26, Tryd.ntmps26
  go_wp2_with fail
  refine (as_nil _ _).mono ?_
  rintro e w1 ⟨rfl, rfl⟩
  go_wp2_with fail
  go_ret
  exact ⟨rfl, below_alloc _ _⟩
theorem bare_all (v : Value) (c : Nat) (d : Int) (E : Nat → Addr) (m : Int) (w : World) (hE : AttrEnv w E m) (h : IsErr w E v c d) :
    Calls Tryd.prog 26 #[v] w fun r w' => r = .returned (ev E c) ∧ Below w.heap.size w w' := by
  rcases isErr_cases h with ⟨rfl, rfl⟩ | ⟨hc, -⟩
  · exact bare_nil w
  · exact bare_any v c d E m w hE h hc

/-- what is wrong with what Apply is handed: a number, a place. -/
def allC (L : List Rl) (ta tn : Int) (A : At) : Nat × Int :=
  if 0 < (rulesC L).1 then rulesC L else if 0 < chkC ta tn then (chkC ta tn, -1) else ((faultA A).1.toNat, -1)
set_option linter.unusedVariables false in
set_option maxRecDepth 100000 in
set_option maxHeartbeats 4000000 in
theorem checkAll_any (p : Option Addr) (L : List Rl) (cp : Nat) (ta tn : Int) (v : Value) (A : At) (E : Nat → Addr) (m : Int) (w : World) (hE : RuleEnv w E m) (h : Rules w p L) (ha : IsAttr w v A) (hl : L.length ≤ 1000000) (h1 : A.path.length ≤ 1000000) (h2 : A.tags.length ≤ 1000000) :
    Calls Tryd.prog 12 #[.slice p L.length cp, .agg #[.int .i64 ta, .int .i64 tn], v] w fun r w' => (∃ u, r = .returned u ∧ IsErr w' E u (allC L ta tn A).1 (allC L ta tn A).2) ∧ Below w.heap.size w w' := by
  obtain ⟨HCR⟩ : Nonempty (Hid (∀ w', Below w.heap.size w w' → Calls _ _ _ _ _)) := ⟨fun w' hb => rCheck_any p L cp E m w' (hE.below hb) (h.below hb) hl⟩
  obtain ⟨HCP⟩ : Nonempty (Hid (∀ w', Below w.heap.size w w' → Calls Tryd.prog 25 #[.agg #[.int .i64 ta, .int .i64 tn]] w' fun e w'' => e = .returned (ev E (chkC ta tn)) ∧ Below w'.heap.size w' w'')) := ⟨fun w' hb => by
    have := check_any ta tn (E 0) (E 1) (E 2) w' (hE.below hb).errs
    rw [chk_ev] at this
    exact this⟩
  obtain ⟨HCA⟩ : Nonempty (Hid (∀ w', Below w.heap.size w w' → Calls _ _ _ _ _)) := ⟨fun w' hb => aCheck_any v A E m w' (hE.at1.below hb) (ha.below hb) h1 h2⟩
  obtain ⟨HBA⟩ : Nonempty (Hid (∀ u c d w', Below w.heap.size w w' → IsErr w' E u c d → Calls _ _ _ _ _)) := ⟨fun u c d w' hb he => bare_all u c d E m w' (hE.at1.below hb) he⟩
  obtain ⟨c1, hc1⟩ : ∃ c, Hid ((rulesC L).1 = c) := ⟨_, show _ = _ from rfl⟩
  obtain ⟨k1, hk1⟩ : ∃ c, Hid ((rulesC L).2 = c) := ⟨_, show _ = _ from rfl⟩
  obtain ⟨c2, hc2⟩ : ∃ c, Hid (chkC ta tn = c) := ⟨_, show _ = _ from rfl⟩
  obtain ⟨c3, hc3⟩ : ∃ c, Hid ((faultA A).1.toNat = c) := ⟨_, show _ = _ from rfl⟩
  obtain ⟨k3, hk3⟩ : ∃ c, Hid ((faultA A).2 = c) := ⟨_, show _ = _ from rfl⟩
  have HX : Hid (allC L ta tn A = if 0 < c1 then (c1, k1) else if 0 < c2 then (c2, -1) else (c3, -1)) := by
    show _ = _
    rw [← hc1.out, ← hk1.out, ← hc2.out, ← hc3.out]
    rfl
  obtain ⟨ca, hca⟩ : ∃ c, Hid ((allC L ta tn A).1 = c) := ⟨_, show _ = _ from rfl⟩
  obtain ⟨ka, hka⟩ : ∃ c, Hid ((allC L ta tn A).2 = c) := ⟨_, show _ = _ from rfl⟩
  obtain ⟨HY⟩ : Nonempty (Hid (ca = (if 0 < c1 then (c1, k1) else if 0 < c2 then (c2, -1) else (c3, (-1 : Int))).1 ∧ ka = (if 0 < c1 then (c1, k1) else if 0 < c2 then (c2, -1) else (c3, (-1 : Int))).2)) := ⟨by rw [← hca.out, ← hka.out, HX.out]; exact ⟨rfl, rfl⟩⟩
  rw [show (allC L ta tn A).1 = ca from hca.out, show (allC L ta tn A).2 = ka from hka.out]
  simp only [show (rulesC L).1 = c1 from hc1.out, show (rulesC L).2 = k1 from hk1.out] at HCR
  simp only [show chkC ta tn = c2 from hc2.out] at HCP
  simp only [show (faultA A).1.toNat = c3 from hc3.out, show (faultA A).2 = k3 from hk3.out] at HCA
  obtain ⟨q1, d1, q2, d2, rfl, -, -⟩ := ha
  obtain ⟨P, f0, n, o, T⟩ := A
  simp only at *
  obtain ⟨S, hS⟩ : ∃ b, Hid (w.heap.size = b) := ⟨_, show _ = _ from rfl⟩
  have hb0 : Below w.heap.size w ((w.alloc (.cells #[.int .i64 ta, .int .i64 tn] 24)).alloc (.cells #[.slice q1 P.length d1, .int .i64 f0, .int .i64 n, .int .i64 o, .slice q2 T.length d2] 27)) := below_two _ _ _
  obtain ⟨a0, a1⟩ := box_at w (.int .i64 ta) (.int .i64 tn) 24
  obtain ⟨W0, hW0⟩ : ∃ W0, Hid ((w.alloc (.cells #[.int .i64 ta, .int .i64 tn] 24)).alloc (.cells #[.slice q1 P.length d1, .int .i64 f0, .int .i64 n, .int .i64 o, .slice q2 T.length d2] 27) = W0) := ⟨_, show _ = _ from rfl⟩
  obtain ⟨HP⟩ : Nonempty (Hid (W0.cell? ⟨w.heap.size, 0, none⟩ = some (.int .i64 ta) ∧ W0.cell? ⟨w.heap.size, 1, none⟩ = some (.int .i64 tn) ∧ W0.heap[w.heap.size + 1]? = some (.cells #[.slice q1 P.length d1, .int .i64 f0, .int .i64 n, .int .i64 o, .slice q2 T.length d2] 27 (0, 0)) ∧ Below w.heap.size w W0)) := ⟨by
    rw [← show (w.alloc (.cells #[.int .i64 ta, .int .i64 tn] 24)).alloc (.cells #[.slice q1 P.length d1, .int .i64 f0, .int .i64 n, .int .i64 o, .slice q2 T.length d2] 27) = W0 from hW0.out]
    refine ⟨cell_kept (below_alloc _ _) a0, cell_kept (below_alloc _ _) a1, ?_, hb0⟩
    have := Go.heap_alloc_new (w.alloc (.cells #[.int .i64 ta, .int .i64 tn] 24)) (.cells #[.slice q1 P.length d1, .int .i64 f0, .int .i64 n, .int .i64 o, .slice q2 T.length d2] 27)
    simpa using this⟩
  clear hE h h1 h2 hl hc1 hk1 hc2 hc3 hk3 HX hca hka hb0 a0 a1
  go_enter Tryd.func12, Tryd.ntmps12
  go_wp2_with fail
  rw [show (w.alloc (.cells #[.int .i64 ta, .int .i64 tn] 24)).alloc (.cells #[.slice q1 P.length d1, .int .i64 f0, .int .i64 n, .int .i64 o, .slice q2 T.length d2] 27) = W0 from hW0.out]
  refine (HCR.out _ HP.out.2.2.2).mono ?_
  rintro e w1 ⟨⟨u1, rfl, hu1⟩, hb1⟩
  obtain ⟨HP1⟩ : Nonempty (Hid (w1.cell? ⟨w.heap.size, 0, none⟩ = some (.int .i64 ta) ∧ w1.cell? ⟨w.heap.size, 1, none⟩ = some (.int .i64 tn) ∧ w1.heap[w.heap.size + 1]? = some (.cells #[.slice q1 P.length d1, .int .i64 f0, .int .i64 n, .int .i64 o, .slice q2 T.length d2] 27 (0, 0)) ∧ Below w.heap.size w w1)) := ⟨⟨cell_kept hb1 HP.out.1, cell_kept hb1 HP.out.2.1, by rw [hb1.block _ (Array.getElem?_eq_some_iff.1 HP.out.2.2.1).1]; exact HP.out.2.2.1, HP.out.2.2.2.trans (hb1.mono HP.out.2.2.2.size)⟩⟩
  obtain ⟨HU1⟩ : Nonempty (Hid (IsErr w1 E u1 c1 k1)) := ⟨hu1⟩
  clear HP hW0 hb1
  cases c1 with
  | succ c =>
    obtain ⟨t, a, rfl⟩ : ∃ t a, u1 = .iface t (.pointer (some a)) := by
      rcases isErr_cases hu1 with ⟨h, -⟩ | ⟨-, h⟩
      · omega
      · exact h
    clear hu1
    go_wp2_with fail
    go_ret
    refine ⟨⟨_, rfl, ?_⟩, HP1.out.2.2.2⟩
    rw [HY.out.1, HY.out.2, if_pos (by omega)]
    exact HU1.out
  | zero =>
    obtain ⟨-, rfl⟩ : _ ∧ u1 = .nilIface := by
      rcases isErr_cases hu1 with h | ⟨h, -⟩
      · exact h
      · omega
    clear hu1 HU1
    obtain ⟨a0, a1, -, -⟩ := HP1.out
    go_wp2_with fail
    refine (HCP.out _ HP1.out.2.2.2).mono ?_
    rintro e w2 ⟨rfl, hb2⟩
    obtain ⟨HP2⟩ : Nonempty (Hid (w2.heap[w.heap.size + 1]? = some (.cells #[.slice q1 P.length d1, .int .i64 f0, .int .i64 n, .int .i64 o, .slice q2 T.length d2] 27 (0, 0)) ∧ Below w.heap.size w w2)) := ⟨⟨by rw [hb2.block _ (Array.getElem?_eq_some_iff.1 HP1.out.2.2.1).1]; exact HP1.out.2.2.1, HP1.out.2.2.2.trans (hb2.mono HP1.out.2.2.2.size)⟩⟩
    clear hb2 a0 a1 HP1
    cases c2 with
    | succ c =>
      obtain ⟨u, hu⟩ : ∃ u, Hid (E c = u) := ⟨_, show _ = _ from rfl⟩
      simp only [ev]
      rw [show E c = u from hu.out]
      go_wp2_with fail
      go_ret
      refine ⟨⟨_, rfl, ?_⟩, HP2.out.2⟩
      rw [HY.out.1, HY.out.2, if_neg (by omega), if_pos (by omega)]
      exact .inl ⟨rfl, by show _ = ev E (c + 1); simp only [ev]; rw [hu.out]; rfl⟩
    | zero =>
      simp only [ev]
      have hn := HP2.out.1
      have e0 : w2.cell? ⟨w.heap.size + 1, 0, none⟩ = some (.slice q1 P.length d1) := by simp [World.cell?, hn]
      have e1 : w2.cell? ⟨w.heap.size + 1, 1, none⟩ = some (.int .i64 f0) := by simp [World.cell?, hn]
      have e2 : w2.cell? ⟨w.heap.size + 1, 2, none⟩ = some (.int .i64 n) := by simp [World.cell?, hn]
      have e3 : w2.cell? ⟨w.heap.size + 1, 3, none⟩ = some (.int .i64 o) := by simp [World.cell?, hn]
      have e4 : w2.cell? ⟨w.heap.size + 1, 4, none⟩ = some (.slice q2 T.length d2) := by simp [World.cell?, hn]
      clear hn
      go_wp2_with fail
      refine (HCA.out _ HP2.out.2).mono ?_
      rintro e w3 ⟨⟨u3, rfl, hu3⟩, hb3⟩
      obtain ⟨HU3⟩ : Nonempty (Hid (IsErr w3 E u3 c3 k3 ∧ Below w.heap.size w w3)) := ⟨⟨hu3, HP2.out.2.trans (hb3.mono HP2.out.2.size)⟩⟩
      clear hu3 hb3 e0 e1 e2 e3 e4
      go_wp2_with fail
      refine (HBA.out u3 c3 k3 w3 HU3.out.2 HU3.out.1).mono ?_
      rintro e w4 ⟨rfl, hb4⟩
      obtain ⟨HU4⟩ : Nonempty (Hid (Below w.heap.size w w4)) := ⟨HU3.out.2.trans (hb4.mono HU3.out.2.size)⟩
      clear hb4
      go_wp2_with fail
      go_ret
      refine ⟨⟨_, rfl, ?_⟩, HU4.out⟩
      rw [HY.out.1, HY.out.2, if_neg (by omega), if_neg (by omega)]
      exact .inl ⟨rfl, rfl⟩
end Go.Proofs.YtnifhaopjhgmnaaDoor
