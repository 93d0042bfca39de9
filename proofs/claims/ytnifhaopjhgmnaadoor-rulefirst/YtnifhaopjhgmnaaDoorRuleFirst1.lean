/-
  RuleFirst: rules behind one that fits change nothing.
-/
import Derived.Test.YtnifhaopjhgmnaaDoorGL
import Derived.Deep.Cut
import Derived.Deep.CutRange
import Derived.Deep.RegionHeld
namespace Go.Proofs.YtnifhaopjhgmnaaDoor
open Go.RowKit

/-- what the two Applys answered. -/
def SY (w wr : World) (B O O2 : Nat) (ta tn : Int) (va vx : Array Value) (AM : At) (E : Nat → Addr) (u : Value) (c : Nat) (d : Int) (vy : Array Value) (AY : At) (u2 : Value) (c2 : Nat) (d2 : Int) : Prop :=
  SX w wr B O ta tn va vx AM E u c d ∧ wr.heap[O2]? = some (.cells vy 27 (0, 0)) ∧ AttrK wr (.agg vy) AY ∧ IsErr wr E u2 c2 d2
theorem SY.on {w wr w' : World} {B O O2 : Nat} {ta tn : Int} {va vx vy : Array Value} {AM AY : At} {E : Nat → Addr} {u u2 : Value} {c c2 : Nat} {d d2 : Int} (h : SY w wr B O O2 ta tn va vx AM E u c d vy AY u2 c2 d2) (hb : Below wr.heap.size wr w') : SY w w' B O O2 ta tn va vx AM E u c d vy AY u2 c2 d2 :=
  ⟨h.1.on hb, by rw [hb.block _ (Array.getElem?_eq_some_iff.1 h.2.1).1]; exact h.2.1, h.2.2.1.below hb, h.2.2.2.below hb⟩
theorem SY.cells {w wr : World} {B O O2 : Nat} {ta tn : Int} {va vx : Array Value} {x0 x1 x2 x3 x4 : Value} {AM AY : At} {E : Nat → Addr} {u u2 : Value} {c c2 : Nat} {d d2 : Int} (h : SY w wr B O O2 ta tn va vx AM E u c d #[x0, x1, x2, x3, x4] AY u2 c2 d2) : wr.cell? ⟨O2, 0, none⟩ = some x0 ∧ wr.cell? ⟨O2, 1, none⟩ = some x1 ∧ wr.cell? ⟨O2, 2, none⟩ = some x2 ∧ wr.cell? ⟨O2, 3, none⟩ = some x3 ∧ wr.cell? ⟨O2, 4, none⟩ = some x4 := by
  refine ⟨?_, ?_, ?_, ?_, ?_⟩ <;> simp [World.cell?, h.2.1]
theorem sy_new {w w3 : World} {B O : Nat} {ta tn : Int} {va vx vy : Array Value} {AM AY : At} {E : Nat → Addr} {u u2 : Value} {c c2 : Nat} {d d2 : Int} (h : SX w w3 B O ta tn va vx AM E u c d) (hk : AttrK w3 (.agg vy) AY) (hu : IsErr w3 E u2 c2 d2) : SY w (w3.alloc (.cells vy 27)) B O w3.heap.size ta tn va vx AM E u c d vy AY u2 c2 d2 :=
  ⟨h.on (below_alloc _ _), Go.heap_alloc_new _ _, hk.below (below_alloc _ _), hu.below (below_alloc _ _)⟩

set_option linter.unusedSimpArgs false in
set_option linter.unusedVariables false in
set_option maxRecDepth 100000 in
set_option maxHeartbeats 8000000 in
theorem first_fits (p : Option Addr) (L : List Rl) (cp : Nat) (x ta tn : Int) (k : Nat) (v : Value) (A : At) (E : Nat → Addr) (m : Int) (w : World) (hE : RuleEnv w E m) (h : Rules w p L) (hkd : KindR p L.length cp) (hcap : L.length ≤ cp ∧ cp ≤ maxLen) (ha : AttrK w v A) (h9 : L.length ≤ 9) (hlg : longA A = false) (hk : k < L.length)
    (h0 : (rulesC L).1 = 0) (hf : fitsB (ruleN L k) ta tn A = true) :
    Calls Tryd.prog 3 #[.slice p L.length cp, .int .i64 x, .agg #[.int .i64 ta, .int .i64 tn], v, .int .i64 (k : Int)] w fun r w' => r = .returned (.bool true) ∧ Below w.heap.size w w' := by
  have ha0 := ha
  have hla : A.path.length ≤ 20 ∧ A.tags.length ≤ 15 := by
    simp only [longA, Bool.or_eq_false_iff, decide_eq_false_iff_not] at hlg
    omega
  obtain ⟨p0, cp0, q0, cq0, rfl, -, -, -, -⟩ := ha
  obtain ⟨HRU⟩ : Nonempty (Hid (∀ w', Below w.heap.size w w' → Calls _ _ _ _ _)) := ⟨fun w' hb => ruled_any E m w' (hE.below hb)⟩
  obtain ⟨HLG⟩ : Nonempty (Hid (∀ w', Below w.heap.size w w' → Calls _ _ _ _ _)) := ⟨fun w' hb => rLongAttr_any (.agg #[.slice p0 A.path.length cp0, .int .i64 A.pref, .int .i64 A.med, .int .i64 A.org, .slice q0 A.tags.length cq0]) A w' (ha0.below hb).attr⟩
  simp only [hlg] at HLG
  obtain ⟨HT⟩ : Nonempty (Hid (TB w _ w.heap.size ta tn #[.slice p0 A.path.length cp0, .int .i64 A.pref, .int .i64 A.med, .int .i64 A.org, .slice q0 A.tags.length cq0])) := ⟨tb_start w ta tn _⟩
  obtain ⟨HAP⟩ : Nonempty (Hid (∀ w', Below w.heap.size w w' → Calls _ _ _ _ _)) := ⟨fun w' hb => apply_any p L cp x ta tn (.agg #[.slice p0 A.path.length cp0, .int .i64 A.pref, .int .i64 A.med, .int .i64 A.org, .slice q0 A.tags.length cq0]) A E m w' (hE.below hb) (h.below hb) (ha0.below hb) (by omega) (by omega) (by omega)⟩
  obtain ⟨HCK⟩ : Nonempty (Hid (∀ w', Below w.heap.size w w' → Calls _ _ _ _ _)) := ⟨fun w' hb => rCheck_any p L cp E m w' (hE.below hb) (h.below hb) (by omega)⟩
  obtain ⟨AM, hAM⟩ : ∃ a, Hid (appA L x ta tn A = a) := ⟨_, show _ = _ from rfl⟩
  obtain ⟨bM, hbM⟩ : ∃ a, Hid (appB L x ta tn A = a) := ⟨_, show _ = _ from rfl⟩
  obtain ⟨cM, hcM⟩ : ∃ a, Hid ((appC L x ta tn A).1 = a) := ⟨_, show _ = _ from rfl⟩
  obtain ⟨dM, hdM⟩ : ∃ a, Hid ((appC L x ta tn A).2 = a) := ⟨_, show _ = _ from rfl⟩
  obtain ⟨cR, hcR⟩ : ∃ a, Hid ((rulesC L).1 = a) := ⟨_, show _ = _ from rfl⟩
  obtain ⟨dR, hdR⟩ : ∃ a, Hid ((rulesC L).2 = a) := ⟨_, show _ = _ from rfl⟩
  simp only [show appA L x ta tn A = AM from hAM.out, show appB L x ta tn A = bM from hbM.out, show (appC L x ta tn A).1 = cM from hcM.out, show (appC L x ta tn A).2 = dM from hdM.out] at HAP
  simp only [show (rulesC L).1 = cR from hcR.out, show (rulesC L).2 = dR from hdR.out] at HCK
  obtain ⟨HFT⟩ : Nonempty (Hid (∀ w', Below w.heap.size w w' → Calls _ _ _ _ _)) := ⟨fun w' hb => fits_any (ruleN L k) ta tn (.agg #[.slice p0 A.path.length cp0, .int .i64 A.pref, .int .i64 A.med, .int .i64 A.org, .slice q0 A.tags.length cq0]) A E m w' (hE.below hb) (ha0.below hb).attr (by omega) (by omega)⟩
  obtain ⟨b0, o0, rfl, x0⟩ := h k hk
  rw [← ruleN_at L k hk] at x0
  obtain ⟨HX0⟩ : Nonempty (Hid (∀ w', Below w.heap.size w w' → RuleAt w' b0 (o0 + k * 11) (ruleN L k))) := ⟨fun w' hb => x0.below hb⟩
  obtain ⟨r, hr⟩ : ∃ r, Hid (ruleN L k = r) := ⟨_, show _ = _ from rfl⟩
  obtain ⟨HZ⟩ : Nonempty (Hid (cR = 0)) := ⟨by rw [← hcR.out]; exact h0⟩
  have hal := appA_len L x ta tn A hla.1 hla.2
  rw [show appA L x ta tn A = AM from hAM.out] at hal
  obtain ⟨HSM⟩ : Nonempty (Hid (∀ u u' w', IsAttr w' u AM → IsAttr w' u' AM → Calls Tryd.prog 9 #[u, u'] w' fun r w'' => r = .returned (.bool true) ∧ Below w'.heap.size w' w'')) := ⟨fun u u' w' h1 h2 => by
    have := same_any u u' AM AM w' h1 h2 (by omega) (by omega) (by omega) (by omega)
    simpa using this⟩
  rw [hf] at HFT
  simp only [show ruleN L k = r from hr.out] at HFT HX0
  unfold rlV at HFT
  obtain ⟨HAL⟩ : Nonempty (Hid (∀ w', Below w.heap.size w w' → Calls _ _ _ _ _)) := ⟨fun w' hb => apply_any (some ⟨b0, o0, none⟩) (L.take (k + 1)) cp x ta tn (.agg #[.slice p0 A.path.length cp0, .int .i64 A.pref, .int .i64 A.med, .int .i64 A.org, .slice q0 A.tags.length cq0]) A E m w' (hE.below hb) ((h.take (k + 1)).below hb) (ha0.below hb) (by simp; omega) (by omega) (by omega)⟩
  have hff := first_fit x h0 hk hf
  simp only [hff.1, hff.2.1, hff.2.2, show (L.take (k + 1)).length = k + 1 by simp; omega, show appA L x ta tn A = AM from hAM.out, show appB L x ta tn A = bM from hbM.out, show (appC L x ta tn A).1 = cM from hcM.out, show (appC L x ta tn A).2 = dM from hdM.out] at HAL
  have kq4 : (k : Int) ≤ 8 := by omega
  have kq5 : (k : Int) + 1 ≤ cp := by omega
  have kq6 : cp ≤ maxLen := hcap.2
  have hw : IntKind.i64.wrap ((k : Int) + 1) = (k : Int) + 1 := IntWalk.i64_in _ (by omega)
  have hz : (0 : Int) ≤ (k : Int) + 1 := by omega
  have h9' : decide (9 < (L.length : Int)) = false := decide_eq_false (by omega)
  have hneg' : decide ((k : Int) < 0) = false := decide_eq_false (by omega)
  have hge' : decide ((L.length : Int) ≤ (k : Int)) = false := decide_eq_false (by omega)
  have q3 : (k : Int) < L.length := by omega
  obtain ⟨B, hB⟩ : ∃ B, Hid (w.heap.size = B) := ⟨_, show _ = _ from rfl⟩
  clear hE h hkd ha0 hlg hla hf hr h0 hcap x0 hff hal hAM hbM hcM hdM hcR hdR
  go_enter Tryd.func3, Tryd.ntmps3
  go_wp2_with fail
  refine (HRU.out _ HT.out.2.2).mono ?_
  rintro e w1 ⟨rfl, hb1⟩
  obtain ⟨HT1⟩ : Nonempty (Hid (TB w w1 w.heap.size ta tn #[.slice p0 A.path.length cp0, .int .i64 A.pref, .int .i64 A.med, .int .i64 A.org, .slice q0 A.tags.length cq0])) := ⟨HT.out.on hb1⟩
  obtain ⟨a0, a1, a2, a3, a4⟩ := HT1.out.arg
  clear hb1 HT
  go_wp2_with fail
  refine (HLG.out w1 HT1.out.2.2).mono ?_
  rintro e w2 ⟨rfl, hb2⟩
  obtain ⟨HT2⟩ : Nonempty (Hid (TB w w2 w.heap.size ta tn #[.slice p0 A.path.length cp0, .int .i64 A.pref, .int .i64 A.med, .int .i64 A.org, .slice q0 A.tags.length cq0])) := ⟨HT1.out.on hb2⟩
  clear hb2 HT1 a0 a1 a2 a3 a4 HLG HRU
  obtain ⟨a0, a1⟩ := HT2.out.pre
  obtain ⟨b0, b1, b2, b3, b4⟩ := HT2.out.arg
  go_wp2_with fail
  refine (HAP.out w2 HT2.out.2.2).mono ?_
  rintro e w3 ⟨⟨v3, u, rfl, hg3, hu3⟩, hb3⟩
  have hk3 := hg3.attrK
  obtain ⟨p5, cp5, q5, cq5, rfl, -, -, -, -⟩ := hg3.attrK
  obtain ⟨O, hO⟩ : ∃ b, Hid (w3.heap.size = b) := ⟨_, show _ = _ from rfl⟩
  obtain ⟨W4, hW4⟩ : ∃ y, Hid (w3.alloc (.cells #[.slice p5 AM.path.length cp5, .int .i64 AM.pref, .int .i64 AM.med, .int .i64 AM.org, .slice q5 AM.tags.length cq5] 27) = y) := ⟨_, show _ = _ from rfl⟩
  obtain ⟨HS4⟩ : Nonempty (Hid (SX w W4 w.heap.size O ta tn #[.slice p0 A.path.length cp0, .int .i64 A.pref, .int .i64 A.med, .int .i64 A.org, .slice q0 A.tags.length cq0] #[.slice p5 AM.path.length cp5, .int .i64 AM.pref, .int .i64 AM.med, .int .i64 AM.org, .slice q5 AM.tags.length cq5] AM E u cM dM)) := ⟨by rw [← show w3.alloc (.cells #[.slice p5 AM.path.length cp5, .int .i64 AM.pref, .int .i64 AM.med, .int .i64 AM.org, .slice q5 AM.tags.length cq5] 27) = W4 from hW4.out, ← show w3.heap.size = O from hO.out]; exact sx_new (HT2.out.on hb3) hk3 hu3⟩
  clear hb3 hg3 hu3 hk3 HT2 a0 a1 b0 b1 b2 b3 b4 HAP
  go_wp2_with fail
  rw [show w3.alloc (.cells #[.slice p5 AM.path.length cp5, .int .i64 AM.pref, .int .i64 AM.med, .int .i64 AM.org, .slice q5 AM.tags.length cq5] 27) = W4 from hW4.out, show w3.heap.size = O from hO.out]
  clear hW4 hO
  refine (HCK.out W4 HS4.out.1.2.2).mono ?_
  rintro e w5 ⟨⟨u5, rfl, hu5⟩, hb5⟩
  obtain ⟨HS5⟩ : Nonempty (Hid (SX w w5 w.heap.size O ta tn #[.slice p0 A.path.length cp0, .int .i64 A.pref, .int .i64 A.med, .int .i64 A.org, .slice q0 A.tags.length cq0] #[.slice p5 AM.path.length cp5, .int .i64 AM.pref, .int .i64 AM.med, .int .i64 AM.org, .slice q5 AM.tags.length cq5] AM E u cM dM)) := ⟨HS4.out.on hb5⟩
  clear hb5 HCK
  obtain rfl : u5 = .nilIface := by
    rcases isErr_cases hu5 with ⟨-, h⟩ | ⟨h, -⟩
    · exact h
    · have := HZ.out; omega
  clear hu5 HZ HS4
  go_upto_region 7 with fail
  refine wp_region_noPanic ?_
  refine wp_region_held_drew (S := (fun w' => SX w w' w.heap.size O ta tn #[.slice p0 A.path.length cp0, .int .i64 A.pref, .int .i64 A.med, .int .i64 A.org, .slice q0 A.tags.length cq0] #[.slice p5 AM.path.length cp5, .int .i64 AM.pref, .int .i64 AM.med, .int .i64 AM.org, .slice q5 AM.tags.length cq5] AM E u cM dM ∧ RuleAt w' b0 (o0 + k * 11) r)) (by kernel_rfl) ?_ (fun hHeld => ?_)
  · exact ⟨HS5.out.on (Below.refl _ _).drew, HX0.out _ (HS5.out.on (Below.refl _ _).drew).1.2.2⟩
  refine wpAnyH_take (i := 0) (v := ?_) rfl (by kernel_rfl) (by kernel_rfl) (by kernel_rfl) (fun _ _ _ h => h) (Or.inl ⟨by rfl, ?_⟩) (by assumption) ?_
  rotate_left
  · (intro w hSw; (try dsimp only at hSw); go_simp; try (with_reducible rfl))
  try simp only [Act.put, List.setIfInBounds_toArray, List.set_cons_zero, List.set_cons_succ, List.getElem_toArray, List.getElem_cons_zero, List.getElem_cons_succ]
  refine wpAnyH_take (i := 1) (v := ?_) rfl (by kernel_rfl) (by kernel_rfl) (by kernel_rfl) (fun _ _ _ h => h) (Or.inl ⟨by rfl, ?_⟩) (by assumption) ?_
  rotate_left
  · (intro w hSw; (try dsimp only at hSw); go_simp; try (with_reducible rfl))
  try simp only [Act.put, List.setIfInBounds_toArray, List.set_cons_zero, List.set_cons_succ, List.getElem_toArray, List.getElem_cons_zero, List.getElem_cons_succ]
  refine wpAnyH_take (i := 2) (v := ?_) rfl (by kernel_rfl) (by kernel_rfl) (by kernel_rfl) (fun _ _ _ h => h) (Or.inl ⟨by rfl, ?_⟩) (by assumption) ?_
  rotate_left
  · (intro w hSw; (try dsimp only at hSw); go_simp; try (with_reducible rfl))
  try simp only [Act.put, List.setIfInBounds_toArray, List.set_cons_zero, List.set_cons_succ, List.getElem_toArray, List.getElem_cons_zero, List.getElem_cons_succ]
  refine wpAnyH_take (i := 3) (v := ?_) rfl (by kernel_rfl) (by kernel_rfl) (by kernel_rfl) (fun _ _ _ h => h) (Or.inl ⟨by rfl, ?_⟩) (by assumption) ?_
  rotate_left
  · intro w' hSw
    obtain ⟨f0, f1, f2, f3, f4, f5, f6, f7, f8, f9, f10⟩ := hSw.2.cells
    go_simp
    try (with_reducible rfl)
  try simp only [Act.put, List.setIfInBounds_toArray, List.set_cons_zero, List.set_cons_succ, List.getElem_toArray, List.getElem_cons_zero, List.getElem_cons_succ]
  refine wpAnyH_take (i := 4) (v := ?_) rfl (by kernel_rfl) (by kernel_rfl) (by kernel_rfl) (fun _ _ _ h => h) (Or.inl ⟨by rfl, ?_⟩) (by assumption) ?_
  rotate_left
  · intro w' hSw
    obtain ⟨g0, g1⟩ := hSw.1.1.pre
    go_simp
    try (with_reducible rfl)
  try simp only [Act.put, List.setIfInBounds_toArray, List.set_cons_zero, List.set_cons_succ, List.getElem_toArray, List.getElem_cons_zero, List.getElem_cons_succ]
  refine wpAnyH_take (i := 5) (v := ?_) rfl (by kernel_rfl) (by kernel_rfl) (by kernel_rfl) (fun _ _ _ h => h) (Or.inl ⟨by rfl, ?_⟩) (by assumption) ?_
  rotate_left
  · intro w' hSw
    obtain ⟨g0, g1, g2, g3, g4⟩ := hSw.1.1.arg
    go_simp
    try (with_reducible rfl)
  try simp only [Act.put, List.setIfInBounds_toArray, List.set_cons_zero, List.set_cons_succ, List.getElem_toArray, List.getElem_cons_zero, List.getElem_cons_succ]
  refine wpAnyH_ready (rs := [6]) (by kernel_rfl) (by simp) ?_
  refine AllReadyH.cons rfl (fun K hK => ?_) AllReadyH.nil
  go_simp
  refine (HFT.out w5.drew (HS5.out.on (Below.refl _ _).drew).1.2.2).mono ?_
  rintro e x0 ⟨rfl, hb6⟩
  obtain ⟨HS6⟩ : Nonempty (Hid (SX w x0 w.heap.size O ta tn #[.slice p0 A.path.length cp0, .int .i64 A.pref, .int .i64 A.med, .int .i64 A.org, .slice q0 A.tags.length cq0] #[.slice p5 AM.path.length cp5, .int .i64 AM.pref, .int .i64 AM.med, .int .i64 AM.org, .slice q5 AM.tags.length cq5] AM E u cM dM)) := ⟨(HS5.out.on (Below.refl _ _).drew).on hb6⟩
  clear hb6 HFT
  refine hK.out _ _ ⟨HS6.out, HX0.out _ HS6.out.1.2.2⟩ (fun hHeld => ?_)
  clear hK K
  try simp only [Act.put, List.setIfInBounds_toArray, List.set_cons_zero, List.set_cons_succ, List.getElem_toArray, List.getElem_cons_zero, List.getElem_cons_succ]
  refine wpAnyH_done (by kernel_rfl) ?_ _
  refine NoPanic.normal ?_
  clear hHeld
  clear HS5 HX0
  obtain ⟨HS0⟩ : Nonempty (Hid (SX w x0.drew w.heap.size O ta tn #[.slice p0 A.path.length cp0, .int .i64 A.pref, .int .i64 A.med, .int .i64 A.org, .slice q0 A.tags.length cq0] #[.slice p5 AM.path.length cp5, .int .i64 AM.pref, .int .i64 AM.med, .int .i64 AM.org, .slice q5 AM.tags.length cq5] AM E u cM dM)) := ⟨HS6.out.on (Below.refl _ _).drew⟩
  clear HS6
  go_upto_region 8 with fail
  go_cut [15, 16, 17] from 75 (fun s15 s16 s17 w' => ∃ (O2 : Nat) (p8 : Option Addr) (cp8 : Nat) (q8 : Option Addr) (cq8 : Nat) (u8 : Value) (W : World), s15 = .pointer (some ⟨O2, 0, none⟩) ∧ s16 = .bool bM ∧ s17 = u8 ∧ Hid (SY w W w.heap.size O O2 ta tn #[.slice p0 A.path.length cp0, .int .i64 A.pref, .int .i64 A.med, .int .i64 A.org, .slice q0 A.tags.length cq0] #[.slice p5 AM.path.length cp5, .int .i64 AM.pref, .int .i64 AM.med, .int .i64 AM.org, .slice q5 AM.tags.length cq5] AM E u cM dM #[.slice p8 AM.path.length cp8, .int .i64 AM.pref, .int .i64 AM.med, .int .i64 AM.org, .slice q8 AM.tags.length cq8] AM u8 cM dM) ∧ W = w')
  case first J0 K0 hJ0 hK0 =>
    refine wp_region_noPanic ?_
    refine wp_region_held_drew (S := (fun w' => SX w w' w.heap.size O ta tn #[.slice p0 A.path.length cp0, .int .i64 A.pref, .int .i64 A.med, .int .i64 A.org, .slice q0 A.tags.length cq0] #[.slice p5 AM.path.length cp5, .int .i64 AM.pref, .int .i64 AM.med, .int .i64 AM.org, .slice q5 AM.tags.length cq5] AM E u cM dM)) (by kernel_rfl) ?_ (fun hHeld => ?_)
    · exact HS0.out
    refine wpAnyH_take (i := 0) (v := ?_) rfl (by kernel_rfl) (by kernel_rfl) (by kernel_rfl) (fun _ _ _ h => h) (Or.inl ⟨by rfl, ?_⟩) (by assumption) ?_
    rotate_left
    · (intro w hSw; (try dsimp only at hSw); go_simp; try (with_reducible rfl))
    try simp only [Act.put, List.setIfInBounds_toArray, List.set_cons_zero, List.set_cons_succ, List.getElem_toArray, List.getElem_cons_zero, List.getElem_cons_succ]
    refine wpAnyH_take (i := 1) (v := ?_) rfl (by kernel_rfl) (by kernel_rfl) (by kernel_rfl) (fun _ _ _ h => h) (Or.inl ⟨by rfl, ?_⟩) (by assumption) ?_
    rotate_left
    · (intro w hSw; (try dsimp only at hSw); go_simp; try (with_reducible rfl))
    try simp only [Act.put, List.setIfInBounds_toArray, List.set_cons_zero, List.set_cons_succ, List.getElem_toArray, List.getElem_cons_zero, List.getElem_cons_succ]
    refine wpAnyH_take (i := 2) (v := ?_) rfl (by kernel_rfl) (by kernel_rfl) (by kernel_rfl) (fun _ _ _ h => h) (Or.inl ⟨by rfl, ?_⟩) (by assumption) ?_
    rotate_left
    · (intro w hSw; (try dsimp only at hSw); go_simp; try (with_reducible rfl))
    try simp only [Act.put, List.setIfInBounds_toArray, List.set_cons_zero, List.set_cons_succ, List.getElem_toArray, List.getElem_cons_zero, List.getElem_cons_succ]
    refine wpAnyH_take (i := 3) (v := ?_) rfl (by kernel_rfl) (by kernel_rfl) (by kernel_rfl) (fun _ _ _ h => h) (Or.inl ⟨by rfl, ?_⟩) (by assumption) ?_
    rotate_left
    · (intro w hSw; (try dsimp only at hSw); go_simp; try (with_reducible rfl))
    try simp only [Act.put, List.setIfInBounds_toArray, List.set_cons_zero, List.set_cons_succ, List.getElem_toArray, List.getElem_cons_zero, List.getElem_cons_succ]
    refine wpAnyH_take (i := 4) (v := ?_) rfl (by kernel_rfl) (by kernel_rfl) (by kernel_rfl) (fun _ _ _ h => h) (Or.inl ⟨by rfl, ?_⟩) (by assumption) ?_
    rotate_left
    · (intro w hSw; (try dsimp only at hSw); go_simp; try (with_reducible rfl))
    try simp only [Act.put, List.setIfInBounds_toArray, List.set_cons_zero, List.set_cons_succ, List.getElem_toArray, List.getElem_cons_zero, List.getElem_cons_succ]
    refine wpAnyH_take (i := 5) (v := ?_) rfl (by kernel_rfl) (by kernel_rfl) (by kernel_rfl) (fun _ _ _ h => h) (Or.inl ⟨by rfl, ?_⟩) (by assumption) ?_
    rotate_left
    · intro w' hSw
      obtain ⟨g0, g1⟩ := hSw.1.pre
      go_simp
      try (with_reducible rfl)
    try simp only [Act.put, List.setIfInBounds_toArray, List.set_cons_zero, List.set_cons_succ, List.getElem_toArray, List.getElem_cons_zero, List.getElem_cons_succ]
    refine wpAnyH_take (i := 6) (v := ?_) rfl (by kernel_rfl) (by kernel_rfl) (by kernel_rfl) (fun _ _ _ h => h) (Or.inl ⟨by rfl, ?_⟩) (by assumption) ?_
    rotate_left
    · intro w' hSw
      obtain ⟨g0, g1, g2, g3, g4⟩ := hSw.1.arg
      go_simp
      try (with_reducible rfl)
    try simp only [Act.put, List.setIfInBounds_toArray, List.set_cons_zero, List.set_cons_succ, List.getElem_toArray, List.getElem_cons_zero, List.getElem_cons_succ]
    refine wpAnyH_ready (rs := [7, 12]) (by kernel_rfl) (by simp) ?_
    refine (AllReadyH.cons rfl (fun K hK => ?_) (AllReadyH.cons rfl (fun K hK => ?_) AllReadyH.nil))
    · skip
      go_simp
      refine (HAL.out x0.drew HS0.out.1.2.2).mono ?_
      rintro e x1 ⟨⟨v8, u8, rfl, hg8, he8⟩, hb⟩
      obtain ⟨p8, cp8, q8, cq8, rfl, j1, j2, j3, j4, m1, m2⟩ := hg8
      obtain ⟨HS1⟩ : Nonempty (Hid (SX w x1 w.heap.size O ta tn #[.slice p0 A.path.length cp0, .int .i64 A.pref, .int .i64 A.med, .int .i64 A.org, .slice q0 A.tags.length cq0] #[.slice p5 AM.path.length cp5, .int .i64 AM.pref, .int .i64 AM.med, .int .i64 AM.org, .slice q5 AM.tags.length cq5] AM E u cM dM)) := ⟨HS0.out.on hb⟩
      obtain ⟨HG0⟩ : Nonempty (Hid (AttrK x1 (.agg #[.slice p8 AM.path.length cp8, .int .i64 AM.pref, .int .i64 AM.med, .int .i64 AM.org, .slice q8 AM.tags.length cq8]) AM ∧ IsErr x1 E u8 cM dM)) := ⟨⟨⟨p8, cp8, q8, cq8, rfl, j1, j2, j3, j4⟩, he8⟩⟩
      clear hb he8 j1 j2 j3 j4 m1 m2 HAL
      refine hK.out _ _ HS1.out (fun hHeld => ?_)
      clear hK K
      try simp only [Act.put, List.setIfInBounds_toArray, List.set_cons_zero, List.set_cons_succ, List.getElem_toArray, List.getElem_cons_zero, List.getElem_cons_succ]
      refine wpAnyH_take (i := 8) (v := ?_) rfl (by kernel_rfl) (by kernel_rfl) (by kernel_rfl) (fun _ _ _ h => h) (Or.inl ⟨by rfl, ?_⟩) (by assumption) ?_
      rotate_left
      · (intro w hSw; (try dsimp only at hSw); go_simp; try (with_reducible rfl))
      try simp only [Act.put, List.setIfInBounds_toArray, List.set_cons_zero, List.set_cons_succ, List.getElem_toArray, List.getElem_cons_zero, List.getElem_cons_succ]
      refine wpAnyH_take (i := 9) (v := ?_) rfl (by kernel_rfl) (by kernel_rfl) (by kernel_rfl) (fun _ _ _ h => h) (Or.inl ⟨by rfl, ?_⟩) (by assumption) ?_
      rotate_left
      · (intro w hSw; (try dsimp only at hSw); go_simp; try (with_reducible rfl))
      try simp only [Act.put, List.setIfInBounds_toArray, List.set_cons_zero, List.set_cons_succ, List.getElem_toArray, List.getElem_cons_zero, List.getElem_cons_succ]
      refine wpAnyH_take (i := 10) (v := ?_) rfl (by kernel_rfl) (by kernel_rfl) (by kernel_rfl) (fun _ _ _ h => h) (Or.inl ⟨by rfl, ?_⟩) (by assumption) ?_
      rotate_left
      · (intro w hSw; (try dsimp only at hSw); go_simp; try (with_reducible rfl))
      try simp only [Act.put, List.setIfInBounds_toArray, List.set_cons_zero, List.set_cons_succ, List.getElem_toArray, List.getElem_cons_zero, List.getElem_cons_succ]
      refine wpAnyH_take (i := 11) (v := ?_) rfl (by kernel_rfl) (by kernel_rfl) (by kernel_rfl) (fun _ _ _ h => h) (Or.inl ⟨by rfl, ?_⟩) (by assumption) ?_
      rotate_left
      · (intro w hSw; (try dsimp only at hSw); go_simp; try (with_reducible rfl))
      try simp only [Act.put, List.setIfInBounds_toArray, List.set_cons_zero, List.set_cons_succ, List.getElem_toArray, List.getElem_cons_zero, List.getElem_cons_succ]
      refine wpAnyH_ready (rs := [12]) (by kernel_rfl) (by simp) ?_
      refine AllReadyH.cons rfl (fun K hK => ?_) AllReadyH.nil
      go_simp
      obtain ⟨O2, hO2⟩ : ∃ b, Hid (x1.heap.size = b) := ⟨_, show _ = _ from rfl⟩
      obtain ⟨x2, hx2⟩ : ∃ y, Hid (x1.alloc (.cells #[.slice none 0 0, .int .i64 0, .int .i64 0, .int .i64 0, .slice none 0 0] 27) = y) := ⟨_, show _ = _ from rfl⟩
      obtain ⟨HO⟩ : Nonempty (Hid (Below x1.heap.size x1 x2 ∧ x2.heap[O2]? = some (.cells #[.slice none 0 0, .int .i64 0, .int .i64 0, .int .i64 0, .slice none 0 0] 27 (0, 0)))) := ⟨by
        rw [← show x1.alloc (.cells #[.slice none 0 0, .int .i64 0, .int .i64 0, .int .i64 0, .slice none 0 0] 27) = x2 from hx2.out, ← show x1.heap.size = O2 from hO2.out]
        exact ⟨below_alloc _ _, Go.heap_alloc_new _ _⟩⟩
      have hol : x1.heap.size ≤ O2 := by rw [hO2.out]; exact Nat.le_refl _
      rw [show x1.alloc (.cells #[.slice none 0 0, .int .i64 0, .int .i64 0, .int .i64 0, .slice none 0 0] 27) = x2 from hx2.out, show x1.heap.size = O2 from hO2.out]
      clear hx2 hO2
      refine hK.out _ _ (HS1.out.on HO.out.1) (fun hHeld => ?_)
      clear hK K
      try simp only [Act.put, List.setIfInBounds_toArray, List.set_cons_zero, List.set_cons_succ, List.getElem_toArray, List.getElem_cons_zero, List.getElem_cons_succ]
      refine wpAnyH_ready (rs := [13]) (by kernel_rfl) (by simp) ?_
      refine AllReadyH.cons rfl (fun K hK => ?_) AllReadyH.nil
      have hh := HO.out.2
      have e0 : x2.cell? ⟨O2, 0, none⟩ = some (.slice none 0 0) := by simp [World.cell?, hh]
      have z0 : x2.frozen? ⟨O2, 0, none⟩ = false := by simp [World.frozen?, hh]
      have e1 : x2.cell? ⟨O2, 1, none⟩ = some (.int .i64 0) := by simp [World.cell?, hh]
      have z1 : x2.frozen? ⟨O2, 1, none⟩ = false := by simp [World.frozen?, hh]
      have e2 : x2.cell? ⟨O2, 2, none⟩ = some (.int .i64 0) := by simp [World.cell?, hh]
      have z2 : x2.frozen? ⟨O2, 2, none⟩ = false := by simp [World.frozen?, hh]
      have e3 : x2.cell? ⟨O2, 3, none⟩ = some (.int .i64 0) := by simp [World.cell?, hh]
      have z3 : x2.frozen? ⟨O2, 3, none⟩ = false := by simp [World.frozen?, hh]
      have e4 : x2.cell? ⟨O2, 4, none⟩ = some (.slice none 0 0) := by simp [World.cell?, hh]
      have z4 : x2.frozen? ⟨O2, 4, none⟩ = false := by simp [World.frozen?, hh]
      clear hh
      go_simp
      obtain ⟨x3, hx3⟩ : ∃ y, Hid (((((x2.setCell ⟨O2, 0, none⟩ (.slice p8 AM.path.length cp8)).setCell ⟨O2, 1, none⟩ (.int .i64 AM.pref)).setCell ⟨O2, 2, none⟩ (.int .i64 AM.med)).setCell ⟨O2, 3, none⟩ (.int .i64 AM.org)).setCell ⟨O2, 4, none⟩ (.slice q8 AM.tags.length cq8) = y) := ⟨_, show _ = _ from rfl⟩
      rw [show ((((x2.setCell ⟨O2, 0, none⟩ (.slice p8 AM.path.length cp8)).setCell ⟨O2, 1, none⟩ (.int .i64 AM.pref)).setCell ⟨O2, 2, none⟩ (.int .i64 AM.med)).setCell ⟨O2, 3, none⟩ (.int .i64 AM.org)).setCell ⟨O2, 4, none⟩ (.slice q8 AM.tags.length cq8) = x3 from hx3.out]
      obtain ⟨HZ3⟩ : Nonempty (Hid (SY w x3 w.heap.size O O2 ta tn #[.slice p0 A.path.length cp0, .int .i64 A.pref, .int .i64 A.med, .int .i64 A.org, .slice q0 A.tags.length cq0] #[.slice p5 AM.path.length cp5, .int .i64 AM.pref, .int .i64 AM.med, .int .i64 AM.org, .slice q5 AM.tags.length cq5] AM E u cM dM #[.slice p8 AM.path.length cp8, .int .i64 AM.pref, .int .i64 AM.med, .int .i64 AM.org, .slice q8 AM.tags.length cq8] AM u8 cM dM)) := ⟨by
        rw [← show ((((x2.setCell ⟨O2, 0, none⟩ (.slice p8 AM.path.length cp8)).setCell ⟨O2, 1, none⟩ (.int .i64 AM.pref)).setCell ⟨O2, 2, none⟩ (.int .i64 AM.med)).setCell ⟨O2, 3, none⟩ (.int .i64 AM.org)).setCell ⟨O2, 4, none⟩ (.slice q8 AM.tags.length cq8) = x3 from hx3.out]
        exact ⟨HS1.out.on (setFive HO.out.1 hol _ _ _ _ _), set5_first HO.out.2 _ _ _ _ _, HG0.out.1.below (setFive HO.out.1 hol _ _ _ _ _), HG0.out.2.below (setFive HO.out.1 hol _ _ _ _ _)⟩⟩
      clear hx3 e0 e1 e2 e3 e4 z0 z1 z2 z3 z4
      refine hK.out _ _ HZ3.out.1 (fun hHeld => ?_)
      clear hK K
      try simp only [Act.put, List.setIfInBounds_toArray, List.set_cons_zero, List.set_cons_succ, List.getElem_toArray, List.getElem_cons_zero, List.getElem_cons_succ]
      refine wpAnyH_take (i := 14) (v := ?_) rfl (by kernel_rfl) (by kernel_rfl) (by kernel_rfl) (fun _ _ _ h => h) (Or.inl ⟨by rfl, ?_⟩) (by assumption) ?_
      rotate_left
      · (intro w hSw; (try dsimp only at hSw); go_simp; try (with_reducible rfl))
      try simp only [Act.put, List.setIfInBounds_toArray, List.set_cons_zero, List.set_cons_succ, List.getElem_toArray, List.getElem_cons_zero, List.getElem_cons_succ]
      refine wpAnyH_take (i := 15) (v := ?_) rfl (by kernel_rfl) (by kernel_rfl) (by kernel_rfl) (fun _ _ _ h => h) (Or.inl ⟨by rfl, ?_⟩) (by assumption) ?_
      rotate_left
      · (intro w hSw; (try dsimp only at hSw); go_simp; try (with_reducible rfl))
      try simp only [Act.put, List.setIfInBounds_toArray, List.set_cons_zero, List.set_cons_succ, List.getElem_toArray, List.getElem_cons_zero, List.getElem_cons_succ]
      refine wpAnyH_done (by kernel_rfl) ?_ _
      refine NoPanic.normal ?_
      show K0 _ _
      refine hK0 _ _ (Met.intro (hJ0 _ _ ?_))
      (repeat apply Exists.intro)
      exact ⟨⟨O2, p8, cp8, q8, cq8, u8, x3, rfl, rfl, rfl, HZ3, rfl⟩, rfl⟩
    · skip
      go_simp
      obtain ⟨O2, hO2⟩ : ∃ b, Hid (x0.drew.heap.size = b) := ⟨_, show _ = _ from rfl⟩
      obtain ⟨x1, hx1⟩ : ∃ y, Hid ((x0.alloc (.cells #[.slice none 0 0, .int .i64 0, .int .i64 0, .int .i64 0, .slice none 0 0] 27)).drew = y) := ⟨_, show _ = _ from rfl⟩
      have hb1 : Below x0.drew.heap.size x0.drew x1 := by rw [← show (x0.alloc (.cells #[.slice none 0 0, .int .i64 0, .int .i64 0, .int .i64 0, .slice none 0 0] 27)).drew = x1 from hx1.out]; exact below_alloc (x0.drew) _
      obtain ⟨HO1⟩ : Nonempty (Hid (Below x0.drew.heap.size x0.drew x1 ∧ x1.heap[O2]? = some (.cells #[.slice none 0 0, .int .i64 0, .int .i64 0, .int .i64 0, .slice none 0 0] 27 (0, 0)))) := ⟨hb1, by
        rw [← show (x0.alloc (.cells #[.slice none 0 0, .int .i64 0, .int .i64 0, .int .i64 0, .slice none 0 0] 27)).drew = x1 from hx1.out, ← show x0.drew.heap.size = O2 from hO2.out]
        exact Go.heap_alloc_new (x0.drew) _⟩
      have hol : x0.drew.heap.size ≤ O2 := by rw [hO2.out]; exact Nat.le_refl _
      obtain ⟨HS1⟩ : Nonempty (Hid (SX w x1 w.heap.size O ta tn #[.slice p0 A.path.length cp0, .int .i64 A.pref, .int .i64 A.med, .int .i64 A.org, .slice q0 A.tags.length cq0] #[.slice p5 AM.path.length cp5, .int .i64 AM.pref, .int .i64 AM.med, .int .i64 AM.org, .slice q5 AM.tags.length cq5] AM E u cM dM)) := ⟨HS0.out.on hb1⟩
      rw [show (x0.alloc (.cells #[.slice none 0 0, .int .i64 0, .int .i64 0, .int .i64 0, .slice none 0 0] 27)).drew = x1 from hx1.out, show x0.heap.size = O2 from hO2.out]
      clear hx1 hO2 hb1
      refine hK.out _ _ HS1.out (fun hHeld => ?_)
      clear hK K
      try simp only [Act.put, List.setIfInBounds_toArray, List.set_cons_zero, List.set_cons_succ, List.getElem_toArray, List.getElem_cons_zero, List.getElem_cons_succ]
      refine wpAnyH_ready (rs := [7]) (by kernel_rfl) (by simp) ?_
      refine AllReadyH.cons rfl (fun K hK => ?_) AllReadyH.nil
      go_simp
      refine (HAL.out x1 HS1.out.1.2.2).mono ?_
      rintro e x2 ⟨⟨v8, u8, rfl, hg8, he8⟩, hb⟩
      obtain ⟨p8, cp8, q8, cq8, rfl, j1, j2, j3, j4, m1, m2⟩ := hg8
      obtain ⟨HS2⟩ : Nonempty (Hid (SX w x2 w.heap.size O ta tn #[.slice p0 A.path.length cp0, .int .i64 A.pref, .int .i64 A.med, .int .i64 A.org, .slice q0 A.tags.length cq0] #[.slice p5 AM.path.length cp5, .int .i64 AM.pref, .int .i64 AM.med, .int .i64 AM.org, .slice q5 AM.tags.length cq5] AM E u cM dM)) := ⟨HS1.out.on hb⟩
      have hl1 : O2 < x1.heap.size := (Array.getElem?_eq_some_iff.1 HO1.out.2).1
      obtain ⟨HO⟩ : Nonempty (Hid (Below x0.drew.heap.size x0.drew x2 ∧ x2.heap[O2]? = some (.cells #[.slice none 0 0, .int .i64 0, .int .i64 0, .int .i64 0, .slice none 0 0] 27 (0, 0)))) := ⟨⟨HO1.out.1.trans (hb.mono HO1.out.1.size), by rw [hb.block _ hl1]; exact HO1.out.2⟩⟩
      obtain ⟨HG0⟩ : Nonempty (Hid (AttrG x2 (.agg #[.slice p8 AM.path.length cp8, .int .i64 AM.pref, .int .i64 AM.med, .int .i64 AM.org, .slice q8 AM.tags.length cq8]) AM x1.heap.size ∧ IsErr x2 E u8 cM dM)) := ⟨⟨⟨p8, cp8, q8, cq8, rfl, j1, j2, j3, j4, m1, m2⟩, he8⟩⟩
      clear hb he8 j1 j2 j3 j4 m1 m2 HAL
      refine hK.out _ _ HS2.out (fun hHeld => ?_)
      clear hK K
      try simp only [Act.put, List.setIfInBounds_toArray, List.set_cons_zero, List.set_cons_succ, List.getElem_toArray, List.getElem_cons_zero, List.getElem_cons_succ]
      refine wpAnyH_take (i := 8) (v := ?_) rfl (by kernel_rfl) (by kernel_rfl) (by kernel_rfl) (fun _ _ _ h => h) (Or.inl ⟨by rfl, ?_⟩) (by assumption) ?_
      rotate_left
      · (intro w hSw; (try dsimp only at hSw); go_simp; try (with_reducible rfl))
      try simp only [Act.put, List.setIfInBounds_toArray, List.set_cons_zero, List.set_cons_succ, List.getElem_toArray, List.getElem_cons_zero, List.getElem_cons_succ]
      refine wpAnyH_take (i := 9) (v := ?_) rfl (by kernel_rfl) (by kernel_rfl) (by kernel_rfl) (fun _ _ _ h => h) (Or.inl ⟨by rfl, ?_⟩) (by assumption) ?_
      rotate_left
      · (intro w hSw; (try dsimp only at hSw); go_simp; try (with_reducible rfl))
      try simp only [Act.put, List.setIfInBounds_toArray, List.set_cons_zero, List.set_cons_succ, List.getElem_toArray, List.getElem_cons_zero, List.getElem_cons_succ]
      refine wpAnyH_take (i := 10) (v := ?_) rfl (by kernel_rfl) (by kernel_rfl) (by kernel_rfl) (fun _ _ _ h => h) (Or.inl ⟨by rfl, ?_⟩) (by assumption) ?_
      rotate_left
      · (intro w hSw; (try dsimp only at hSw); go_simp; try (with_reducible rfl))
      try simp only [Act.put, List.setIfInBounds_toArray, List.set_cons_zero, List.set_cons_succ, List.getElem_toArray, List.getElem_cons_zero, List.getElem_cons_succ]
      refine wpAnyH_take (i := 11) (v := ?_) rfl (by kernel_rfl) (by kernel_rfl) (by kernel_rfl) (fun _ _ _ h => h) (Or.inl ⟨by rfl, ?_⟩) (by assumption) ?_
      rotate_left
      · (intro w hSw; (try dsimp only at hSw); go_simp; try (with_reducible rfl))
      try simp only [Act.put, List.setIfInBounds_toArray, List.set_cons_zero, List.set_cons_succ, List.getElem_toArray, List.getElem_cons_zero, List.getElem_cons_succ]
      refine wpAnyH_ready (rs := [13]) (by kernel_rfl) (by simp) ?_
      refine AllReadyH.cons rfl (fun K hK => ?_) AllReadyH.nil
      have hh := HO.out.2
      have e0 : x2.cell? ⟨O2, 0, none⟩ = some (.slice none 0 0) := by simp [World.cell?, hh]
      have z0 : x2.frozen? ⟨O2, 0, none⟩ = false := by simp [World.frozen?, hh]
      have e1 : x2.cell? ⟨O2, 1, none⟩ = some (.int .i64 0) := by simp [World.cell?, hh]
      have z1 : x2.frozen? ⟨O2, 1, none⟩ = false := by simp [World.frozen?, hh]
      have e2 : x2.cell? ⟨O2, 2, none⟩ = some (.int .i64 0) := by simp [World.cell?, hh]
      have z2 : x2.frozen? ⟨O2, 2, none⟩ = false := by simp [World.frozen?, hh]
      have e3 : x2.cell? ⟨O2, 3, none⟩ = some (.int .i64 0) := by simp [World.cell?, hh]
      have z3 : x2.frozen? ⟨O2, 3, none⟩ = false := by simp [World.frozen?, hh]
      have e4 : x2.cell? ⟨O2, 4, none⟩ = some (.slice none 0 0) := by simp [World.cell?, hh]
      have z4 : x2.frozen? ⟨O2, 4, none⟩ = false := by simp [World.frozen?, hh]
      clear hh
      go_simp
      obtain ⟨x3, hx3⟩ : ∃ y, Hid (((((x2.setCell ⟨O2, 0, none⟩ (.slice p8 AM.path.length cp8)).setCell ⟨O2, 1, none⟩ (.int .i64 AM.pref)).setCell ⟨O2, 2, none⟩ (.int .i64 AM.med)).setCell ⟨O2, 3, none⟩ (.int .i64 AM.org)).setCell ⟨O2, 4, none⟩ (.slice q8 AM.tags.length cq8) = y) := ⟨_, show _ = _ from rfl⟩
      rw [show ((((x2.setCell ⟨O2, 0, none⟩ (.slice p8 AM.path.length cp8)).setCell ⟨O2, 1, none⟩ (.int .i64 AM.pref)).setCell ⟨O2, 2, none⟩ (.int .i64 AM.med)).setCell ⟨O2, 3, none⟩ (.int .i64 AM.org)).setCell ⟨O2, 4, none⟩ (.slice q8 AM.tags.length cq8) = x3 from hx3.out]
      obtain ⟨HZ3⟩ : Nonempty (Hid (SY w x3 w.heap.size O O2 ta tn #[.slice p0 A.path.length cp0, .int .i64 A.pref, .int .i64 A.med, .int .i64 A.org, .slice q0 A.tags.length cq0] #[.slice p5 AM.path.length cp5, .int .i64 AM.pref, .int .i64 AM.med, .int .i64 AM.org, .slice q5 AM.tags.length cq5] AM E u cM dM #[.slice p8 AM.path.length cp8, .int .i64 AM.pref, .int .i64 AM.med, .int .i64 AM.org, .slice q8 AM.tags.length cq8] AM u8 cM dM)) := ⟨by
        rw [← show ((((x2.setCell ⟨O2, 0, none⟩ (.slice p8 AM.path.length cp8)).setCell ⟨O2, 1, none⟩ (.int .i64 AM.pref)).setCell ⟨O2, 2, none⟩ (.int .i64 AM.med)).setCell ⟨O2, 3, none⟩ (.int .i64 AM.org)).setCell ⟨O2, 4, none⟩ (.slice q8 AM.tags.length cq8) = x3 from hx3.out]
        exact ⟨HS0.out.on (setFive HO.out.1 hol _ _ _ _ _), set5_first HO.out.2 _ _ _ _ _, (HG0.out.1.set5 (B := O2) hl1 _ _ _ _ _).attrK, isErr_set5 HG0.out.2 HO.out.2 _ _ _ _ _⟩⟩
      clear hx3 e0 e1 e2 e3 e4 z0 z1 z2 z3 z4
      refine hK.out _ _ HZ3.out.1 (fun hHeld => ?_)
      clear hK K
      try simp only [Act.put, List.setIfInBounds_toArray, List.set_cons_zero, List.set_cons_succ, List.getElem_toArray, List.getElem_cons_zero, List.getElem_cons_succ]
      refine wpAnyH_take (i := 14) (v := ?_) rfl (by kernel_rfl) (by kernel_rfl) (by kernel_rfl) (fun _ _ _ h => h) (Or.inl ⟨by rfl, ?_⟩) (by assumption) ?_
      rotate_left
      · (intro w hSw; (try dsimp only at hSw); go_simp; try (with_reducible rfl))
      try simp only [Act.put, List.setIfInBounds_toArray, List.set_cons_zero, List.set_cons_succ, List.getElem_toArray, List.getElem_cons_zero, List.getElem_cons_succ]
      refine wpAnyH_take (i := 15) (v := ?_) rfl (by kernel_rfl) (by kernel_rfl) (by kernel_rfl) (fun _ _ _ h => h) (Or.inl ⟨by rfl, ?_⟩) (by assumption) ?_
      rotate_left
      · (intro w hSw; (try dsimp only at hSw); go_simp; try (with_reducible rfl))
      try simp only [Act.put, List.setIfInBounds_toArray, List.set_cons_zero, List.set_cons_succ, List.getElem_toArray, List.getElem_cons_zero, List.getElem_cons_succ]
      refine wpAnyH_done (by kernel_rfl) ?_ _
      refine NoPanic.normal ?_
      show K0 _ _
      refine hK0 _ _ (Met.intro (hJ0 _ _ ?_))
      (repeat apply Exists.intro)
      exact ⟨⟨O2, p8, cp8, q8, cq8, u8, x3, rfl, rfl, rfl, HZ3, rfl⟩, rfl⟩
  case rest =>
    obtain ⟨O2, p8, cp8, q8, cq8, u8, Wx, rfl, rfl, hu8, HY, hW⟩ := hcut
    subst hW
    replace hu8 := hu8.symm
    subst hu8
    clear HAL HS0
    rcases isErr_cases HY.out.1.2.2.2 with ⟨hc, rfl⟩ | ⟨hc, t1, a1, rfl⟩
    · obtain rfl : u8 = .nilIface := by
        rcases isErr_cases HY.out.2.2.2 with ⟨-, h⟩ | ⟨h, -⟩
        · exact h
        · omega
      clear hc
      cases bM with
      | true =>
        go_upto_region 9 with fail
        refine wp_region_noPanic ?_
        refine wp_region_held_drew (S := (fun w' => SY w w' w.heap.size O O2 ta tn #[.slice p0 A.path.length cp0, .int .i64 A.pref, .int .i64 A.med, .int .i64 A.org, .slice q0 A.tags.length cq0] #[.slice p5 AM.path.length cp5, .int .i64 AM.pref, .int .i64 AM.med, .int .i64 AM.org, .slice q5 AM.tags.length cq5] AM E .nilIface cM dM #[.slice p8 AM.path.length cp8, .int .i64 AM.pref, .int .i64 AM.med, .int .i64 AM.org, .slice q8 AM.tags.length cq8] AM .nilIface cM dM)) (by kernel_rfl) ?_ (fun hHeld => ?_)
        · exact HY.out.on (Below.refl _ _).drew
        refine wpAnyH_take (i := 0) (v := ?_) rfl (by kernel_rfl) (by kernel_rfl) (by kernel_rfl) (fun _ _ _ h => h) (Or.inl ⟨by rfl, ?_⟩) (by assumption) ?_
        rotate_left
        · (intro w hSw; (try dsimp only at hSw); go_simp; try (with_reducible rfl))
        try simp only [Act.put, List.setIfInBounds_toArray, List.set_cons_zero, List.set_cons_succ, List.getElem_toArray, List.getElem_cons_zero, List.getElem_cons_succ]
        refine wpAnyH_take (i := 1) (v := ?_) rfl (by kernel_rfl) (by kernel_rfl) (by kernel_rfl) (fun _ _ _ h => h) (Or.inl ⟨by rfl, ?_⟩) (by assumption) ?_
        rotate_left
        · (intro w hSw; (try dsimp only at hSw); go_simp; try (with_reducible rfl))
        try simp only [Act.put, List.setIfInBounds_toArray, List.set_cons_zero, List.set_cons_succ, List.getElem_toArray, List.getElem_cons_zero, List.getElem_cons_succ]
        refine wpAnyH_take (i := 2) (v := ?_) rfl (by kernel_rfl) (by kernel_rfl) (by kernel_rfl) (fun _ _ _ h => h) (Or.inl ⟨by rfl, ?_⟩) (by assumption) ?_
        rotate_left
        · (intro w hSw; (try dsimp only at hSw); go_simp; try (with_reducible rfl))
        try simp only [Act.put, List.setIfInBounds_toArray, List.set_cons_zero, List.set_cons_succ, List.getElem_toArray, List.getElem_cons_zero, List.getElem_cons_succ]
        refine wpAnyH_take (i := 3) (v := ?_) rfl (by kernel_rfl) (by kernel_rfl) (by kernel_rfl) (fun _ _ _ h => h) (Or.inl ⟨by rfl, ?_⟩) (by assumption) ?_
        rotate_left
        · (intro w hSw; (try dsimp only at hSw); go_simp; try (with_reducible rfl))
        try simp only [Act.put, List.setIfInBounds_toArray, List.set_cons_zero, List.set_cons_succ, List.getElem_toArray, List.getElem_cons_zero, List.getElem_cons_succ]
        refine wpAnyH_take (i := 4) (v := ?_) rfl (by kernel_rfl) (by kernel_rfl) (by kernel_rfl) (fun _ _ _ h => h) (Or.inl ⟨by rfl, ?_⟩) (by assumption) ?_
        rotate_left
        · (intro w hSw; (try dsimp only at hSw); go_simp; try (with_reducible rfl))
        try simp only [Act.put, List.setIfInBounds_toArray, List.set_cons_zero, List.set_cons_succ, List.getElem_toArray, List.getElem_cons_zero, List.getElem_cons_succ]
        refine wpAnyH_take (i := 5) (v := ?_) rfl (by kernel_rfl) (by kernel_rfl) (by kernel_rfl) (fun _ _ _ h => h) (Or.inl ⟨by rfl, ?_⟩) (by assumption) ?_
        rotate_left
        · (intro w hSw; (try dsimp only at hSw); go_simp; try (with_reducible rfl))
        try simp only [Act.put, List.setIfInBounds_toArray, List.set_cons_zero, List.set_cons_succ, List.getElem_toArray, List.getElem_cons_zero, List.getElem_cons_succ]
        refine wpAnyH_take (i := 6) (v := ?_) rfl (by kernel_rfl) (by kernel_rfl) (by kernel_rfl) (fun _ _ _ h => h) (Or.inl ⟨by rfl, ?_⟩) (by assumption) ?_
        rotate_left
        · (intro w hSw; (try dsimp only at hSw); go_simp; try (with_reducible rfl))
        try simp only [Act.put, List.setIfInBounds_toArray, List.set_cons_zero, List.set_cons_succ, List.getElem_toArray, List.getElem_cons_zero, List.getElem_cons_succ]
        refine wpAnyH_take (i := 7) (v := ?_) rfl (by kernel_rfl) (by kernel_rfl) (by kernel_rfl) (fun _ _ _ h => h) (Or.inl ⟨by rfl, ?_⟩) (by assumption) ?_
        rotate_left
        · (intro w hSw; (try dsimp only at hSw); go_simp; try (with_reducible rfl))
        try simp only [Act.put, List.setIfInBounds_toArray, List.set_cons_zero, List.set_cons_succ, List.getElem_toArray, List.getElem_cons_zero, List.getElem_cons_succ]
        refine wpAnyH_take (i := 8) (v := ?_) rfl (by kernel_rfl) (by kernel_rfl) (by kernel_rfl) (fun _ _ _ h => h) (Or.inl ⟨by rfl, ?_⟩) (by assumption) ?_
        rotate_left
        · (intro w hSw; (try dsimp only at hSw); go_simp; try (with_reducible rfl))
        try simp only [Act.put, List.setIfInBounds_toArray, List.set_cons_zero, List.set_cons_succ, List.getElem_toArray, List.getElem_cons_zero, List.getElem_cons_succ]
        refine wpAnyH_take (i := 9) (v := ?_) rfl (by kernel_rfl) (by kernel_rfl) (by kernel_rfl) (fun _ _ _ h => h) (Or.inl ⟨by rfl, ?_⟩) (by assumption) ?_
        rotate_left
        · (intro w hSw; (try dsimp only at hSw); go_simp; try (with_reducible rfl))
        try simp only [Act.put, List.setIfInBounds_toArray, List.set_cons_zero, List.set_cons_succ, List.getElem_toArray, List.getElem_cons_zero, List.getElem_cons_succ]
        refine wpAnyH_take (i := 10) (v := ?_) rfl (by kernel_rfl) (by kernel_rfl) (by kernel_rfl) (fun _ _ _ h => h) (Or.inl ⟨by rfl, ?_⟩) (by assumption) ?_
        rotate_left
        · (intro w hSw; (try dsimp only at hSw); go_simp; try (with_reducible rfl))
        try simp only [Act.put, List.setIfInBounds_toArray, List.set_cons_zero, List.set_cons_succ, List.getElem_toArray, List.getElem_cons_zero, List.getElem_cons_succ]
        refine wpAnyH_take (i := 11) (v := ?_) rfl (by kernel_rfl) (by kernel_rfl) (by kernel_rfl) (fun _ _ _ h => h) (Or.inl ⟨by rfl, ?_⟩) (by assumption) ?_
        rotate_left
        · intro w' hSw
          obtain ⟨g0, g1, g2, g3, g4⟩ := hSw.1.cells
          go_simp
          try (with_reducible rfl)
        try simp only [Act.put, List.setIfInBounds_toArray, List.set_cons_zero, List.set_cons_succ, List.getElem_toArray, List.getElem_cons_zero, List.getElem_cons_succ]
        refine wpAnyH_take (i := 12) (v := ?_) rfl (by kernel_rfl) (by kernel_rfl) (by kernel_rfl) (fun _ _ _ h => h) (Or.inl ⟨by rfl, ?_⟩) (by assumption) ?_
        rotate_left
        · intro w' hSw
          obtain ⟨g0, g1, g2, g3, g4⟩ := hSw.cells
          go_simp
          try (with_reducible rfl)
        try simp only [Act.put, List.setIfInBounds_toArray, List.set_cons_zero, List.set_cons_succ, List.getElem_toArray, List.getElem_cons_zero, List.getElem_cons_succ]
        refine wpAnyH_ready (rs := [13]) (by kernel_rfl) (by simp) ?_
        refine AllReadyH.cons rfl (fun K hK => ?_) AllReadyH.nil
        go_simp
        refine (HSM.out _ _ _ (HY.out.on (Below.refl _ _).drew).1.2.2.1.attr (HY.out.on (Below.refl _ _).drew).2.2.1.attr).mono ?_
        rintro e x9 ⟨rfl, hb9⟩
        obtain ⟨HY9⟩ : Nonempty (Hid (SY w x9 w.heap.size O O2 ta tn #[.slice p0 A.path.length cp0, .int .i64 A.pref, .int .i64 A.med, .int .i64 A.org, .slice q0 A.tags.length cq0] #[.slice p5 AM.path.length cp5, .int .i64 AM.pref, .int .i64 AM.med, .int .i64 AM.org, .slice q5 AM.tags.length cq5] AM E .nilIface cM dM #[.slice p8 AM.path.length cp8, .int .i64 AM.pref, .int .i64 AM.med, .int .i64 AM.org, .slice q8 AM.tags.length cq8] AM .nilIface cM dM)) := ⟨(HY.out.on (Below.refl _ _).drew).on hb9⟩
        clear hb9
        refine hK.out _ _ HY9.out (fun hHeld => ?_)
        clear hK K
        try simp only [Act.put, List.setIfInBounds_toArray, List.set_cons_zero, List.set_cons_succ, List.getElem_toArray, List.getElem_cons_zero, List.getElem_cons_succ]
        refine wpAnyH_take (i := 14) (v := ?_) rfl (by kernel_rfl) (by kernel_rfl) (by kernel_rfl) (fun _ _ _ h => h) (Or.inl ⟨by rfl, ?_⟩) (by assumption) ?_
        rotate_left
        · (intro w hSw; (try dsimp only at hSw); go_simp; try (with_reducible rfl))
        try simp only [Act.put, List.setIfInBounds_toArray, List.set_cons_zero, List.set_cons_succ, List.getElem_toArray, List.getElem_cons_zero, List.getElem_cons_succ]
        refine wpAnyH_take (i := 15) (v := ?_) rfl (by kernel_rfl) (by kernel_rfl) (by kernel_rfl) (fun _ _ _ h => h) (Or.inl ⟨by rfl, ?_⟩) (by assumption) ?_
        rotate_left
        · (intro w hSw; (try dsimp only at hSw); go_simp; try (with_reducible rfl))
        try simp only [Act.put, List.setIfInBounds_toArray, List.set_cons_zero, List.set_cons_succ, List.getElem_toArray, List.getElem_cons_zero, List.getElem_cons_succ]
        refine wpAnyH_done (by kernel_rfl) ?_ _
        refine NoPanic.normal ?_
        clear hHeld
        go_wp2_with fail
        go_ret
        exact ⟨rfl, HY9.out.1.1.2.2⟩
      | false =>
        go_upto_region 9 with fail
        refine wp_region_noPanic ?_
        refine wp_region_held_drew (S := (fun w' => SY w w' w.heap.size O O2 ta tn #[.slice p0 A.path.length cp0, .int .i64 A.pref, .int .i64 A.med, .int .i64 A.org, .slice q0 A.tags.length cq0] #[.slice p5 AM.path.length cp5, .int .i64 AM.pref, .int .i64 AM.med, .int .i64 AM.org, .slice q5 AM.tags.length cq5] AM E .nilIface cM dM #[.slice p8 AM.path.length cp8, .int .i64 AM.pref, .int .i64 AM.med, .int .i64 AM.org, .slice q8 AM.tags.length cq8] AM .nilIface cM dM)) (by kernel_rfl) ?_ (fun hHeld => ?_)
        · exact HY.out.on (Below.refl _ _).drew
        refine wpAnyH_take (i := 0) (v := ?_) rfl (by kernel_rfl) (by kernel_rfl) (by kernel_rfl) (fun _ _ _ h => h) (Or.inl ⟨by rfl, ?_⟩) (by assumption) ?_
        rotate_left
        · (intro w hSw; (try dsimp only at hSw); go_simp; try (with_reducible rfl))
        try simp only [Act.put, List.setIfInBounds_toArray, List.set_cons_zero, List.set_cons_succ, List.getElem_toArray, List.getElem_cons_zero, List.getElem_cons_succ]
        refine wpAnyH_take (i := 1) (v := ?_) rfl (by kernel_rfl) (by kernel_rfl) (by kernel_rfl) (fun _ _ _ h => h) (Or.inl ⟨by rfl, ?_⟩) (by assumption) ?_
        rotate_left
        · (intro w hSw; (try dsimp only at hSw); go_simp; try (with_reducible rfl))
        try simp only [Act.put, List.setIfInBounds_toArray, List.set_cons_zero, List.set_cons_succ, List.getElem_toArray, List.getElem_cons_zero, List.getElem_cons_succ]
        refine wpAnyH_take (i := 2) (v := ?_) rfl (by kernel_rfl) (by kernel_rfl) (by kernel_rfl) (fun _ _ _ h => h) (Or.inl ⟨by rfl, ?_⟩) (by assumption) ?_
        rotate_left
        · (intro w hSw; (try dsimp only at hSw); go_simp; try (with_reducible rfl))
        try simp only [Act.put, List.setIfInBounds_toArray, List.set_cons_zero, List.set_cons_succ, List.getElem_toArray, List.getElem_cons_zero, List.getElem_cons_succ]
        refine wpAnyH_take (i := 3) (v := ?_) rfl (by kernel_rfl) (by kernel_rfl) (by kernel_rfl) (fun _ _ _ h => h) (Or.inl ⟨by rfl, ?_⟩) (by assumption) ?_
        rotate_left
        · (intro w hSw; (try dsimp only at hSw); go_simp; try (with_reducible rfl))
        try simp only [Act.put, List.setIfInBounds_toArray, List.set_cons_zero, List.set_cons_succ, List.getElem_toArray, List.getElem_cons_zero, List.getElem_cons_succ]
        refine wpAnyH_take (i := 4) (v := ?_) rfl (by kernel_rfl) (by kernel_rfl) (by kernel_rfl) (fun _ _ _ h => h) (Or.inl ⟨by rfl, ?_⟩) (by assumption) ?_
        rotate_left
        · (intro w hSw; (try dsimp only at hSw); go_simp; try (with_reducible rfl))
        try simp only [Act.put, List.setIfInBounds_toArray, List.set_cons_zero, List.set_cons_succ, List.getElem_toArray, List.getElem_cons_zero, List.getElem_cons_succ]
        refine wpAnyH_take (i := 5) (v := ?_) rfl (by kernel_rfl) (by kernel_rfl) (by kernel_rfl) (fun _ _ _ h => h) (Or.inl ⟨by rfl, ?_⟩) (by assumption) ?_
        rotate_left
        · (intro w hSw; (try dsimp only at hSw); go_simp; try (with_reducible rfl))
        try simp only [Act.put, List.setIfInBounds_toArray, List.set_cons_zero, List.set_cons_succ, List.getElem_toArray, List.getElem_cons_zero, List.getElem_cons_succ]
        refine wpAnyH_take (i := 6) (v := ?_) rfl (by kernel_rfl) (by kernel_rfl) (by kernel_rfl) (fun _ _ _ h => h) (Or.inl ⟨by rfl, ?_⟩) (by assumption) ?_
        rotate_left
        · (intro w hSw; (try dsimp only at hSw); go_simp; try (with_reducible rfl))
        try simp only [Act.put, List.setIfInBounds_toArray, List.set_cons_zero, List.set_cons_succ, List.getElem_toArray, List.getElem_cons_zero, List.getElem_cons_succ]
        refine wpAnyH_take (i := 7) (v := ?_) rfl (by kernel_rfl) (by kernel_rfl) (by kernel_rfl) (fun _ _ _ h => h) (Or.inl ⟨by rfl, ?_⟩) (by assumption) ?_
        rotate_left
        · (intro w hSw; (try dsimp only at hSw); go_simp; try (with_reducible rfl))
        try simp only [Act.put, List.setIfInBounds_toArray, List.set_cons_zero, List.set_cons_succ, List.getElem_toArray, List.getElem_cons_zero, List.getElem_cons_succ]
        refine wpAnyH_take (i := 8) (v := ?_) rfl (by kernel_rfl) (by kernel_rfl) (by kernel_rfl) (fun _ _ _ h => h) (Or.inl ⟨by rfl, ?_⟩) (by assumption) ?_
        rotate_left
        · (intro w hSw; (try dsimp only at hSw); go_simp; try (with_reducible rfl))
        try simp only [Act.put, List.setIfInBounds_toArray, List.set_cons_zero, List.set_cons_succ, List.getElem_toArray, List.getElem_cons_zero, List.getElem_cons_succ]
        refine wpAnyH_take (i := 9) (v := ?_) rfl (by kernel_rfl) (by kernel_rfl) (by kernel_rfl) (fun _ _ _ h => h) (Or.inl ⟨by rfl, ?_⟩) (by assumption) ?_
        rotate_left
        · (intro w hSw; (try dsimp only at hSw); go_simp; try (with_reducible rfl))
        try simp only [Act.put, List.setIfInBounds_toArray, List.set_cons_zero, List.set_cons_succ, List.getElem_toArray, List.getElem_cons_zero, List.getElem_cons_succ]
        refine wpAnyH_take (i := 10) (v := ?_) rfl (by kernel_rfl) (by kernel_rfl) (by kernel_rfl) (fun _ _ _ h => h) (Or.inl ⟨by rfl, ?_⟩) (by assumption) ?_
        rotate_left
        · (intro w hSw; (try dsimp only at hSw); go_simp; try (with_reducible rfl))
        try simp only [Act.put, List.setIfInBounds_toArray, List.set_cons_zero, List.set_cons_succ, List.getElem_toArray, List.getElem_cons_zero, List.getElem_cons_succ]
        refine wpAnyH_take (i := 11) (v := ?_) rfl (by kernel_rfl) (by kernel_rfl) (by kernel_rfl) (fun _ _ _ h => h) (Or.inl ⟨by rfl, ?_⟩) (by assumption) ?_
        rotate_left
        · intro w' hSw
          obtain ⟨g0, g1, g2, g3, g4⟩ := hSw.1.cells
          go_simp
          try (with_reducible rfl)
        try simp only [Act.put, List.setIfInBounds_toArray, List.set_cons_zero, List.set_cons_succ, List.getElem_toArray, List.getElem_cons_zero, List.getElem_cons_succ]
        refine wpAnyH_take (i := 12) (v := ?_) rfl (by kernel_rfl) (by kernel_rfl) (by kernel_rfl) (fun _ _ _ h => h) (Or.inl ⟨by rfl, ?_⟩) (by assumption) ?_
        rotate_left
        · intro w' hSw
          obtain ⟨g0, g1, g2, g3, g4⟩ := hSw.cells
          go_simp
          try (with_reducible rfl)
        try simp only [Act.put, List.setIfInBounds_toArray, List.set_cons_zero, List.set_cons_succ, List.getElem_toArray, List.getElem_cons_zero, List.getElem_cons_succ]
        refine wpAnyH_ready (rs := [13]) (by kernel_rfl) (by simp) ?_
        refine AllReadyH.cons rfl (fun K hK => ?_) AllReadyH.nil
        go_simp
        refine (HSM.out _ _ _ (HY.out.on (Below.refl _ _).drew).1.2.2.1.attr (HY.out.on (Below.refl _ _).drew).2.2.1.attr).mono ?_
        rintro e x9 ⟨rfl, hb9⟩
        obtain ⟨HY9⟩ : Nonempty (Hid (SY w x9 w.heap.size O O2 ta tn #[.slice p0 A.path.length cp0, .int .i64 A.pref, .int .i64 A.med, .int .i64 A.org, .slice q0 A.tags.length cq0] #[.slice p5 AM.path.length cp5, .int .i64 AM.pref, .int .i64 AM.med, .int .i64 AM.org, .slice q5 AM.tags.length cq5] AM E .nilIface cM dM #[.slice p8 AM.path.length cp8, .int .i64 AM.pref, .int .i64 AM.med, .int .i64 AM.org, .slice q8 AM.tags.length cq8] AM .nilIface cM dM)) := ⟨(HY.out.on (Below.refl _ _).drew).on hb9⟩
        clear hb9
        refine hK.out _ _ HY9.out (fun hHeld => ?_)
        clear hK K
        try simp only [Act.put, List.setIfInBounds_toArray, List.set_cons_zero, List.set_cons_succ, List.getElem_toArray, List.getElem_cons_zero, List.getElem_cons_succ]
        refine wpAnyH_take (i := 14) (v := ?_) rfl (by kernel_rfl) (by kernel_rfl) (by kernel_rfl) (fun _ _ _ h => h) (Or.inl ⟨by rfl, ?_⟩) (by assumption) ?_
        rotate_left
        · (intro w hSw; (try dsimp only at hSw); go_simp; try (with_reducible rfl))
        try simp only [Act.put, List.setIfInBounds_toArray, List.set_cons_zero, List.set_cons_succ, List.getElem_toArray, List.getElem_cons_zero, List.getElem_cons_succ]
        refine wpAnyH_take (i := 15) (v := ?_) rfl (by kernel_rfl) (by kernel_rfl) (by kernel_rfl) (fun _ _ _ h => h) (Or.inl ⟨by rfl, ?_⟩) (by assumption) ?_
        rotate_left
        · (intro w hSw; (try dsimp only at hSw); go_simp; try (with_reducible rfl))
        try simp only [Act.put, List.setIfInBounds_toArray, List.set_cons_zero, List.set_cons_succ, List.getElem_toArray, List.getElem_cons_zero, List.getElem_cons_succ]
        refine wpAnyH_done (by kernel_rfl) ?_ _
        refine NoPanic.normal ?_
        clear hHeld
        go_wp2_with fail
        go_ret
        exact ⟨rfl, HY9.out.1.1.2.2⟩
    · obtain ⟨t8, a8, rfl⟩ : ∃ t a, u8 = .iface t (.pointer (some a)) := by
        rcases isErr_cases HY.out.2.2.2 with ⟨h, -⟩ | ⟨-, h⟩
        · omega
        · exact h
      clear hc
      cases bM with
      | true =>
        go_upto_region 9 with fail
        refine wp_region_noPanic ?_
        refine wp_region_held_drew (S := (fun w' => SY w w' w.heap.size O O2 ta tn #[.slice p0 A.path.length cp0, .int .i64 A.pref, .int .i64 A.med, .int .i64 A.org, .slice q0 A.tags.length cq0] #[.slice p5 AM.path.length cp5, .int .i64 AM.pref, .int .i64 AM.med, .int .i64 AM.org, .slice q5 AM.tags.length cq5] AM E (.iface t1 (.pointer (some a1))) cM dM #[.slice p8 AM.path.length cp8, .int .i64 AM.pref, .int .i64 AM.med, .int .i64 AM.org, .slice q8 AM.tags.length cq8] AM (.iface t8 (.pointer (some a8))) cM dM)) (by kernel_rfl) ?_ (fun hHeld => ?_)
        · exact HY.out.on (Below.refl _ _).drew
        refine wpAnyH_take (i := 0) (v := ?_) rfl (by kernel_rfl) (by kernel_rfl) (by kernel_rfl) (fun _ _ _ h => h) (Or.inl ⟨by rfl, ?_⟩) (by assumption) ?_
        rotate_left
        · (intro w hSw; (try dsimp only at hSw); go_simp; try (with_reducible rfl))
        try simp only [Act.put, List.setIfInBounds_toArray, List.set_cons_zero, List.set_cons_succ, List.getElem_toArray, List.getElem_cons_zero, List.getElem_cons_succ]
        refine wpAnyH_take (i := 1) (v := ?_) rfl (by kernel_rfl) (by kernel_rfl) (by kernel_rfl) (fun _ _ _ h => h) (Or.inl ⟨by rfl, ?_⟩) (by assumption) ?_
        rotate_left
        · (intro w hSw; (try dsimp only at hSw); go_simp; try (with_reducible rfl))
        try simp only [Act.put, List.setIfInBounds_toArray, List.set_cons_zero, List.set_cons_succ, List.getElem_toArray, List.getElem_cons_zero, List.getElem_cons_succ]
        refine wpAnyH_take (i := 2) (v := ?_) rfl (by kernel_rfl) (by kernel_rfl) (by kernel_rfl) (fun _ _ _ h => h) (Or.inl ⟨by rfl, ?_⟩) (by assumption) ?_
        rotate_left
        · (intro w hSw; (try dsimp only at hSw); go_simp; try (with_reducible rfl))
        try simp only [Act.put, List.setIfInBounds_toArray, List.set_cons_zero, List.set_cons_succ, List.getElem_toArray, List.getElem_cons_zero, List.getElem_cons_succ]
        refine wpAnyH_take (i := 3) (v := ?_) rfl (by kernel_rfl) (by kernel_rfl) (by kernel_rfl) (fun _ _ _ h => h) (Or.inl ⟨by rfl, ?_⟩) (by assumption) ?_
        rotate_left
        · (intro w hSw; (try dsimp only at hSw); go_simp; try (with_reducible rfl))
        try simp only [Act.put, List.setIfInBounds_toArray, List.set_cons_zero, List.set_cons_succ, List.getElem_toArray, List.getElem_cons_zero, List.getElem_cons_succ]
        refine wpAnyH_take (i := 4) (v := ?_) rfl (by kernel_rfl) (by kernel_rfl) (by kernel_rfl) (fun _ _ _ h => h) (Or.inl ⟨by rfl, ?_⟩) (by assumption) ?_
        rotate_left
        · (intro w hSw; (try dsimp only at hSw); go_simp; try (with_reducible rfl))
        try simp only [Act.put, List.setIfInBounds_toArray, List.set_cons_zero, List.set_cons_succ, List.getElem_toArray, List.getElem_cons_zero, List.getElem_cons_succ]
        refine wpAnyH_take (i := 5) (v := ?_) rfl (by kernel_rfl) (by kernel_rfl) (by kernel_rfl) (fun _ _ _ h => h) (Or.inl ⟨by rfl, ?_⟩) (by assumption) ?_
        rotate_left
        · (intro w hSw; (try dsimp only at hSw); go_simp; try (with_reducible rfl))
        try simp only [Act.put, List.setIfInBounds_toArray, List.set_cons_zero, List.set_cons_succ, List.getElem_toArray, List.getElem_cons_zero, List.getElem_cons_succ]
        refine wpAnyH_take (i := 6) (v := ?_) rfl (by kernel_rfl) (by kernel_rfl) (by kernel_rfl) (fun _ _ _ h => h) (Or.inl ⟨by rfl, ?_⟩) (by assumption) ?_
        rotate_left
        · (intro w hSw; (try dsimp only at hSw); go_simp; try (with_reducible rfl))
        try simp only [Act.put, List.setIfInBounds_toArray, List.set_cons_zero, List.set_cons_succ, List.getElem_toArray, List.getElem_cons_zero, List.getElem_cons_succ]
        refine wpAnyH_take (i := 7) (v := ?_) rfl (by kernel_rfl) (by kernel_rfl) (by kernel_rfl) (fun _ _ _ h => h) (Or.inl ⟨by rfl, ?_⟩) (by assumption) ?_
        rotate_left
        · (intro w hSw; (try dsimp only at hSw); go_simp; try (with_reducible rfl))
        try simp only [Act.put, List.setIfInBounds_toArray, List.set_cons_zero, List.set_cons_succ, List.getElem_toArray, List.getElem_cons_zero, List.getElem_cons_succ]
        refine wpAnyH_take (i := 8) (v := ?_) rfl (by kernel_rfl) (by kernel_rfl) (by kernel_rfl) (fun _ _ _ h => h) (Or.inl ⟨by rfl, ?_⟩) (by assumption) ?_
        rotate_left
        · (intro w hSw; (try dsimp only at hSw); go_simp; try (with_reducible rfl))
        try simp only [Act.put, List.setIfInBounds_toArray, List.set_cons_zero, List.set_cons_succ, List.getElem_toArray, List.getElem_cons_zero, List.getElem_cons_succ]
        refine wpAnyH_take (i := 9) (v := ?_) rfl (by kernel_rfl) (by kernel_rfl) (by kernel_rfl) (fun _ _ _ h => h) (Or.inl ⟨by rfl, ?_⟩) (by assumption) ?_
        rotate_left
        · (intro w hSw; (try dsimp only at hSw); go_simp; try (with_reducible rfl))
        try simp only [Act.put, List.setIfInBounds_toArray, List.set_cons_zero, List.set_cons_succ, List.getElem_toArray, List.getElem_cons_zero, List.getElem_cons_succ]
        refine wpAnyH_take (i := 10) (v := ?_) rfl (by kernel_rfl) (by kernel_rfl) (by kernel_rfl) (fun _ _ _ h => h) (Or.inl ⟨by rfl, ?_⟩) (by assumption) ?_
        rotate_left
        · (intro w hSw; (try dsimp only at hSw); go_simp; try (with_reducible rfl))
        try simp only [Act.put, List.setIfInBounds_toArray, List.set_cons_zero, List.set_cons_succ, List.getElem_toArray, List.getElem_cons_zero, List.getElem_cons_succ]
        refine wpAnyH_take (i := 11) (v := ?_) rfl (by kernel_rfl) (by kernel_rfl) (by kernel_rfl) (fun _ _ _ h => h) (Or.inl ⟨by rfl, ?_⟩) (by assumption) ?_
        rotate_left
        · intro w' hSw
          obtain ⟨g0, g1, g2, g3, g4⟩ := hSw.1.cells
          go_simp
          try (with_reducible rfl)
        try simp only [Act.put, List.setIfInBounds_toArray, List.set_cons_zero, List.set_cons_succ, List.getElem_toArray, List.getElem_cons_zero, List.getElem_cons_succ]
        refine wpAnyH_take (i := 12) (v := ?_) rfl (by kernel_rfl) (by kernel_rfl) (by kernel_rfl) (fun _ _ _ h => h) (Or.inl ⟨by rfl, ?_⟩) (by assumption) ?_
        rotate_left
        · intro w' hSw
          obtain ⟨g0, g1, g2, g3, g4⟩ := hSw.cells
          go_simp
          try (with_reducible rfl)
        try simp only [Act.put, List.setIfInBounds_toArray, List.set_cons_zero, List.set_cons_succ, List.getElem_toArray, List.getElem_cons_zero, List.getElem_cons_succ]
        refine wpAnyH_ready (rs := [13]) (by kernel_rfl) (by simp) ?_
        refine AllReadyH.cons rfl (fun K hK => ?_) AllReadyH.nil
        go_simp
        refine (HSM.out _ _ _ (HY.out.on (Below.refl _ _).drew).1.2.2.1.attr (HY.out.on (Below.refl _ _).drew).2.2.1.attr).mono ?_
        rintro e x9 ⟨rfl, hb9⟩
        obtain ⟨HY9⟩ : Nonempty (Hid (SY w x9 w.heap.size O O2 ta tn #[.slice p0 A.path.length cp0, .int .i64 A.pref, .int .i64 A.med, .int .i64 A.org, .slice q0 A.tags.length cq0] #[.slice p5 AM.path.length cp5, .int .i64 AM.pref, .int .i64 AM.med, .int .i64 AM.org, .slice q5 AM.tags.length cq5] AM E (.iface t1 (.pointer (some a1))) cM dM #[.slice p8 AM.path.length cp8, .int .i64 AM.pref, .int .i64 AM.med, .int .i64 AM.org, .slice q8 AM.tags.length cq8] AM (.iface t8 (.pointer (some a8))) cM dM)) := ⟨(HY.out.on (Below.refl _ _).drew).on hb9⟩
        clear hb9
        refine hK.out _ _ HY9.out (fun hHeld => ?_)
        clear hK K
        try simp only [Act.put, List.setIfInBounds_toArray, List.set_cons_zero, List.set_cons_succ, List.getElem_toArray, List.getElem_cons_zero, List.getElem_cons_succ]
        refine wpAnyH_take (i := 14) (v := ?_) rfl (by kernel_rfl) (by kernel_rfl) (by kernel_rfl) (fun _ _ _ h => h) (Or.inl ⟨by rfl, ?_⟩) (by assumption) ?_
        rotate_left
        · (intro w hSw; (try dsimp only at hSw); go_simp; try (with_reducible rfl))
        try simp only [Act.put, List.setIfInBounds_toArray, List.set_cons_zero, List.set_cons_succ, List.getElem_toArray, List.getElem_cons_zero, List.getElem_cons_succ]
        refine wpAnyH_take (i := 15) (v := ?_) rfl (by kernel_rfl) (by kernel_rfl) (by kernel_rfl) (fun _ _ _ h => h) (Or.inl ⟨by rfl, ?_⟩) (by assumption) ?_
        rotate_left
        · (intro w hSw; (try dsimp only at hSw); go_simp; try (with_reducible rfl))
        try simp only [Act.put, List.setIfInBounds_toArray, List.set_cons_zero, List.set_cons_succ, List.getElem_toArray, List.getElem_cons_zero, List.getElem_cons_succ]
        refine wpAnyH_done (by kernel_rfl) ?_ _
        refine NoPanic.normal ?_
        clear hHeld
        go_wp2_with fail
        go_ret
        exact ⟨rfl, HY9.out.1.1.2.2⟩
      | false =>
        go_upto_region 9 with fail
        refine wp_region_noPanic ?_
        refine wp_region_held_drew (S := (fun w' => SY w w' w.heap.size O O2 ta tn #[.slice p0 A.path.length cp0, .int .i64 A.pref, .int .i64 A.med, .int .i64 A.org, .slice q0 A.tags.length cq0] #[.slice p5 AM.path.length cp5, .int .i64 AM.pref, .int .i64 AM.med, .int .i64 AM.org, .slice q5 AM.tags.length cq5] AM E (.iface t1 (.pointer (some a1))) cM dM #[.slice p8 AM.path.length cp8, .int .i64 AM.pref, .int .i64 AM.med, .int .i64 AM.org, .slice q8 AM.tags.length cq8] AM (.iface t8 (.pointer (some a8))) cM dM)) (by kernel_rfl) ?_ (fun hHeld => ?_)
        · exact HY.out.on (Below.refl _ _).drew
        refine wpAnyH_take (i := 0) (v := ?_) rfl (by kernel_rfl) (by kernel_rfl) (by kernel_rfl) (fun _ _ _ h => h) (Or.inl ⟨by rfl, ?_⟩) (by assumption) ?_
        rotate_left
        · (intro w hSw; (try dsimp only at hSw); go_simp; try (with_reducible rfl))
        try simp only [Act.put, List.setIfInBounds_toArray, List.set_cons_zero, List.set_cons_succ, List.getElem_toArray, List.getElem_cons_zero, List.getElem_cons_succ]
        refine wpAnyH_take (i := 1) (v := ?_) rfl (by kernel_rfl) (by kernel_rfl) (by kernel_rfl) (fun _ _ _ h => h) (Or.inl ⟨by rfl, ?_⟩) (by assumption) ?_
        rotate_left
        · (intro w hSw; (try dsimp only at hSw); go_simp; try (with_reducible rfl))
        try simp only [Act.put, List.setIfInBounds_toArray, List.set_cons_zero, List.set_cons_succ, List.getElem_toArray, List.getElem_cons_zero, List.getElem_cons_succ]
        refine wpAnyH_take (i := 2) (v := ?_) rfl (by kernel_rfl) (by kernel_rfl) (by kernel_rfl) (fun _ _ _ h => h) (Or.inl ⟨by rfl, ?_⟩) (by assumption) ?_
        rotate_left
        · (intro w hSw; (try dsimp only at hSw); go_simp; try (with_reducible rfl))
        try simp only [Act.put, List.setIfInBounds_toArray, List.set_cons_zero, List.set_cons_succ, List.getElem_toArray, List.getElem_cons_zero, List.getElem_cons_succ]
        refine wpAnyH_take (i := 3) (v := ?_) rfl (by kernel_rfl) (by kernel_rfl) (by kernel_rfl) (fun _ _ _ h => h) (Or.inl ⟨by rfl, ?_⟩) (by assumption) ?_
        rotate_left
        · (intro w hSw; (try dsimp only at hSw); go_simp; try (with_reducible rfl))
        try simp only [Act.put, List.setIfInBounds_toArray, List.set_cons_zero, List.set_cons_succ, List.getElem_toArray, List.getElem_cons_zero, List.getElem_cons_succ]
        refine wpAnyH_take (i := 4) (v := ?_) rfl (by kernel_rfl) (by kernel_rfl) (by kernel_rfl) (fun _ _ _ h => h) (Or.inl ⟨by rfl, ?_⟩) (by assumption) ?_
        rotate_left
        · (intro w hSw; (try dsimp only at hSw); go_simp; try (with_reducible rfl))
        try simp only [Act.put, List.setIfInBounds_toArray, List.set_cons_zero, List.set_cons_succ, List.getElem_toArray, List.getElem_cons_zero, List.getElem_cons_succ]
        refine wpAnyH_take (i := 5) (v := ?_) rfl (by kernel_rfl) (by kernel_rfl) (by kernel_rfl) (fun _ _ _ h => h) (Or.inl ⟨by rfl, ?_⟩) (by assumption) ?_
        rotate_left
        · (intro w hSw; (try dsimp only at hSw); go_simp; try (with_reducible rfl))
        try simp only [Act.put, List.setIfInBounds_toArray, List.set_cons_zero, List.set_cons_succ, List.getElem_toArray, List.getElem_cons_zero, List.getElem_cons_succ]
        refine wpAnyH_take (i := 6) (v := ?_) rfl (by kernel_rfl) (by kernel_rfl) (by kernel_rfl) (fun _ _ _ h => h) (Or.inl ⟨by rfl, ?_⟩) (by assumption) ?_
        rotate_left
        · (intro w hSw; (try dsimp only at hSw); go_simp; try (with_reducible rfl))
        try simp only [Act.put, List.setIfInBounds_toArray, List.set_cons_zero, List.set_cons_succ, List.getElem_toArray, List.getElem_cons_zero, List.getElem_cons_succ]
        refine wpAnyH_take (i := 7) (v := ?_) rfl (by kernel_rfl) (by kernel_rfl) (by kernel_rfl) (fun _ _ _ h => h) (Or.inl ⟨by rfl, ?_⟩) (by assumption) ?_
        rotate_left
        · (intro w hSw; (try dsimp only at hSw); go_simp; try (with_reducible rfl))
        try simp only [Act.put, List.setIfInBounds_toArray, List.set_cons_zero, List.set_cons_succ, List.getElem_toArray, List.getElem_cons_zero, List.getElem_cons_succ]
        refine wpAnyH_take (i := 8) (v := ?_) rfl (by kernel_rfl) (by kernel_rfl) (by kernel_rfl) (fun _ _ _ h => h) (Or.inl ⟨by rfl, ?_⟩) (by assumption) ?_
        rotate_left
        · (intro w hSw; (try dsimp only at hSw); go_simp; try (with_reducible rfl))
        try simp only [Act.put, List.setIfInBounds_toArray, List.set_cons_zero, List.set_cons_succ, List.getElem_toArray, List.getElem_cons_zero, List.getElem_cons_succ]
        refine wpAnyH_take (i := 9) (v := ?_) rfl (by kernel_rfl) (by kernel_rfl) (by kernel_rfl) (fun _ _ _ h => h) (Or.inl ⟨by rfl, ?_⟩) (by assumption) ?_
        rotate_left
        · (intro w hSw; (try dsimp only at hSw); go_simp; try (with_reducible rfl))
        try simp only [Act.put, List.setIfInBounds_toArray, List.set_cons_zero, List.set_cons_succ, List.getElem_toArray, List.getElem_cons_zero, List.getElem_cons_succ]
        refine wpAnyH_take (i := 10) (v := ?_) rfl (by kernel_rfl) (by kernel_rfl) (by kernel_rfl) (fun _ _ _ h => h) (Or.inl ⟨by rfl, ?_⟩) (by assumption) ?_
        rotate_left
        · (intro w hSw; (try dsimp only at hSw); go_simp; try (with_reducible rfl))
        try simp only [Act.put, List.setIfInBounds_toArray, List.set_cons_zero, List.set_cons_succ, List.getElem_toArray, List.getElem_cons_zero, List.getElem_cons_succ]
        refine wpAnyH_take (i := 11) (v := ?_) rfl (by kernel_rfl) (by kernel_rfl) (by kernel_rfl) (fun _ _ _ h => h) (Or.inl ⟨by rfl, ?_⟩) (by assumption) ?_
        rotate_left
        · intro w' hSw
          obtain ⟨g0, g1, g2, g3, g4⟩ := hSw.1.cells
          go_simp
          try (with_reducible rfl)
        try simp only [Act.put, List.setIfInBounds_toArray, List.set_cons_zero, List.set_cons_succ, List.getElem_toArray, List.getElem_cons_zero, List.getElem_cons_succ]
        refine wpAnyH_take (i := 12) (v := ?_) rfl (by kernel_rfl) (by kernel_rfl) (by kernel_rfl) (fun _ _ _ h => h) (Or.inl ⟨by rfl, ?_⟩) (by assumption) ?_
        rotate_left
        · intro w' hSw
          obtain ⟨g0, g1, g2, g3, g4⟩ := hSw.cells
          go_simp
          try (with_reducible rfl)
        try simp only [Act.put, List.setIfInBounds_toArray, List.set_cons_zero, List.set_cons_succ, List.getElem_toArray, List.getElem_cons_zero, List.getElem_cons_succ]
        refine wpAnyH_ready (rs := [13]) (by kernel_rfl) (by simp) ?_
        refine AllReadyH.cons rfl (fun K hK => ?_) AllReadyH.nil
        go_simp
        refine (HSM.out _ _ _ (HY.out.on (Below.refl _ _).drew).1.2.2.1.attr (HY.out.on (Below.refl _ _).drew).2.2.1.attr).mono ?_
        rintro e x9 ⟨rfl, hb9⟩
        obtain ⟨HY9⟩ : Nonempty (Hid (SY w x9 w.heap.size O O2 ta tn #[.slice p0 A.path.length cp0, .int .i64 A.pref, .int .i64 A.med, .int .i64 A.org, .slice q0 A.tags.length cq0] #[.slice p5 AM.path.length cp5, .int .i64 AM.pref, .int .i64 AM.med, .int .i64 AM.org, .slice q5 AM.tags.length cq5] AM E (.iface t1 (.pointer (some a1))) cM dM #[.slice p8 AM.path.length cp8, .int .i64 AM.pref, .int .i64 AM.med, .int .i64 AM.org, .slice q8 AM.tags.length cq8] AM (.iface t8 (.pointer (some a8))) cM dM)) := ⟨(HY.out.on (Below.refl _ _).drew).on hb9⟩
        clear hb9
        refine hK.out _ _ HY9.out (fun hHeld => ?_)
        clear hK K
        try simp only [Act.put, List.setIfInBounds_toArray, List.set_cons_zero, List.set_cons_succ, List.getElem_toArray, List.getElem_cons_zero, List.getElem_cons_succ]
        refine wpAnyH_take (i := 14) (v := ?_) rfl (by kernel_rfl) (by kernel_rfl) (by kernel_rfl) (fun _ _ _ h => h) (Or.inl ⟨by rfl, ?_⟩) (by assumption) ?_
        rotate_left
        · (intro w hSw; (try dsimp only at hSw); go_simp; try (with_reducible rfl))
        try simp only [Act.put, List.setIfInBounds_toArray, List.set_cons_zero, List.set_cons_succ, List.getElem_toArray, List.getElem_cons_zero, List.getElem_cons_succ]
        refine wpAnyH_take (i := 15) (v := ?_) rfl (by kernel_rfl) (by kernel_rfl) (by kernel_rfl) (fun _ _ _ h => h) (Or.inl ⟨by rfl, ?_⟩) (by assumption) ?_
        rotate_left
        · (intro w hSw; (try dsimp only at hSw); go_simp; try (with_reducible rfl))
        try simp only [Act.put, List.setIfInBounds_toArray, List.set_cons_zero, List.set_cons_succ, List.getElem_toArray, List.getElem_cons_zero, List.getElem_cons_succ]
        refine wpAnyH_done (by kernel_rfl) ?_ _
        refine NoPanic.normal ?_
        clear hHeld
        go_wp2_with fail
        go_ret
        exact ⟨rfl, HY9.out.1.1.2.2⟩
end Go.Proofs.YtnifhaopjhgmnaaDoor
