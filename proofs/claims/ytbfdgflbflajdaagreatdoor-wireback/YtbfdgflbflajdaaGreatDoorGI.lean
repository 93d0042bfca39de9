/-
  slices.Index and slices.Contains of prefixes; the questions of package wire's checks: what they return.
  Package wire's Check, with what it asks: what each returns.
  Package wire's checkNews and Check: what they return.
-/
import Derived.Test.YtbfdgflbflajdaaGreatDoorGH
import Derived.BigQuiet
import Derived.RegionTactic
import Derived.Laws.ResultCell
import Derived.Deep.RegionHeld3
import Derived.Laws.EntriesVeiled
namespace Go.Proofs.YtbfdgflbflajdaaGreatDoor
open Go.RowKit

def hasP (L : List (Int × Int)) (x : Int × Int) : Bool := decide (x ∈ L)
theorem hasP_none {L : List (Int × Int)} {x : Int × Int} (h : ∀ j (hj : j < L.length), x ≠ L[j]) : hasP L x = false := by
  unfold hasP
  refine decide_eq_false fun hm => ?_
  obtain ⟨i, hi, e⟩ := List.getElem_of_mem hm
  exact h i hi e.symm
theorem hasP_some {L : List (Int × Int)} {x : Int × Int} {j : Nat} (hj : j < L.length) (h : x = L[j]) : hasP L x = true := by
  unfold hasP
  exact decide_eq_true (by rw [h]; exact List.getElem_mem hj)

set_option linter.unusedVariables false in
set_option maxRecDepth 100000 in
set_option maxHeartbeats 4000000 in
theorem indexP_any (L : List (Int × Int)) (p : Option Addr) (c : Nat) (x0 x1 : Int) (w : World) (hL : Pairs w p L) (hl : L.length ≤ 1099511627776) :
    Calls Tryz.prog 166 #[.slice p L.length c, .agg #[.int .i64 x0, .int .i64 x1]] w fun e w' => (∃ r : Int, e = .returned (.int .i64 r) ∧ decide (0 ≤ r) = hasP L (x0, x1)) ∧ Below w.heap.size w w' := by
  have hb0 := below_alloc w (.cells #[.int .i64 x0, .int .i64 x1] 65)
  obtain ⟨HL⟩ : Nonempty (Hid (Pairs (w.alloc (.cells #[.int .i64 x0, .int .i64 x1] 65)) p L)) := ⟨hL.below hb0⟩
  obtain ⟨HX⟩ : Nonempty (Hid ((w.alloc (.cells #[.int .i64 x0, .int .i64 x1] 65)).cell? ⟨w.heap.size, 0, none⟩ = some (.int .i64 x0) ∧ (w.alloc (.cells #[.int .i64 x0, .int .i64 x1] 65)).cell? ⟨w.heap.size, 1, none⟩ = some (.int .i64 x1))) := ⟨by constructor <;> simp⟩
  obtain ⟨wa, hwa⟩ : ∃ wa, Hid (w.alloc (.cells #[.int .i64 x0, .int .i64 x1] 65) = wa) := ⟨_, show _ = _ from rfl⟩
  clear hL
  go_enter Tryz.func166, Tryz.ntmps166
  go_wp2
  rw [show w.alloc (.cells #[.int .i64 x0, .int .i64 x1] 65) = wa from hwa.out] at HL HX hb0 ⊢
  go_loopw [8] (fun z wr => ∃ k : Nat, z = .int .i64 k ∧ k ≤ L.length ∧ Hid (∀ j (hj : j < L.length), j < k → (x0, x1) ≠ L[j]) ∧ Below wa.heap.size wa wr) (fun z _ => L.length - (intOf z).toNat)
  case atStart => exact ⟨0, rfl, Nat.zero_le _, fun j _ h => by omega, Below.refl _ _⟩
  case round =>
    obtain ⟨k, rfl, hk, HN, hb⟩ := hrel
    by_cases hlt : k < L.length
    · obtain ⟨b0, o0, rfl, c0, c1⟩ := HL.out k hlt
      have q3 : (k : Int) < L.length := by omega
      have c0' := cell_kept hb c0
      have c1' := cell_kept hb c1
      have d0 := cell_kept hb HX.out.1
      have d1 := cell_kept hb HX.out.2
      obtain ⟨a, ha⟩ : ∃ a, Hid (L[k].1 = a) := ⟨_, show _ = _ from rfl⟩
      obtain ⟨n, hn⟩ : ∃ n, Hid (L[k].2 = n) := ⟨_, show _ = _ from rfl⟩
      rw [show L[k].1 = a from ha.out] at c0'
      rw [show L[k].2 = n from hn.out] at c1'
      obtain ⟨HB⟩ : Nonempty (Hid (Below wa.heap.size wa wr)) := ⟨hb⟩
      clear c0 c1 hb
      by_cases he : x0 = a ∧ x1 = n
      · obtain ⟨HT⟩ : Nonempty (Hid (hasP L (x0, x1) = true)) := ⟨hasP_some hlt (Prod.ext (he.1.trans ha.out.symm) (he.2.trans hn.out.symm))⟩
        obtain ⟨rfl, rfl⟩ := he
        go_wp2
        go_quiet (fail)
        go_wp2
        go_ret
        exact ⟨⟨k, rfl, by rw [HT.out]; exact decide_eq_true (by omega)⟩, hb0.trans ((below_drewN HB.out _).mono hb0.size)⟩
      · obtain ⟨HT⟩ : Nonempty (Hid (∀ j (hj : j < L.length), j < k + 1 → (x0, x1) ≠ L[j])) := ⟨fun j hj hjk e => by
          by_cases hjk' : j = k
          · subst hjk'
            exact he ⟨(congrArg Prod.fst e).trans ha.out, (congrArg Prod.snd e).trans hn.out⟩
          · exact HN.out j hj (by omega) e⟩
        by_cases h0 : x0 = a
        · subst h0
          have h1 : (x1 == n) = false := beq_eq_false_iff_ne.2 fun e => he ⟨rfl, e⟩
          clear he
          go_wp2
          go_quiet (fail)
          go_wp2
          go_roundw
          case rel => first | exact ⟨k + 1, by go_num, by omega, HT.out, below_drewN HB.out _⟩ | ((repeat apply Exists.intro); exact ⟨⟨k + 1, by go_num, by omega, HT.out, below_drewN HB.out _⟩, rfl⟩)
          case measure => simp [intOf]; omega
        · have h0' : (x0 == a) = false := beq_eq_false_iff_ne.2 h0
          clear he h0
          go_wp2
          go_quiet (fail)
          go_wp2
          go_roundw
          case rel => first | exact ⟨k + 1, by go_num, by omega, HT.out, below_drewN HB.out _⟩ | ((repeat apply Exists.intro); exact ⟨⟨k + 1, by go_num, by omega, HT.out, below_drewN HB.out _⟩, rfl⟩)
          case measure => simp [intOf]; omega
    · obtain ⟨HT⟩ : Nonempty (Hid (hasP L (x0, x1) = false)) := ⟨hasP_none (fun j hj => HN.out j hj (by omega))⟩
      go_wp2
      go_ret
      exact ⟨⟨-1, rfl, by rw [HT.out]; decide⟩, hb0.trans (hb.mono hb0.size)⟩

set_option linter.unusedVariables false in
set_option maxHeartbeats 1000000 in
theorem containsP_any (L : List (Int × Int)) (p : Option Addr) (c : Nat) (x0 x1 : Int) (w : World) (hL : Pairs w p L) (hl : L.length ≤ 1099511627776) :
    Calls Tryz.prog 149 #[.slice p L.length c, .agg #[.int .i64 x0, .int .i64 x1]] w fun e w' => e = .returned (.bool (hasP L (x0, x1))) ∧ Below w.heap.size w w' := by
  have hb0 := below_alloc w (.cells #[.int .i64 x0, .int .i64 x1] 65)
  obtain ⟨HC⟩ : Nonempty (Hid (Calls _ _ _ _ _)) := ⟨indexP_any L p c x0 x1 _ (hL.below hb0) hl⟩
  obtain ⟨HB⟩ : Nonempty (Hid (Below _ _ _)) := ⟨hb0⟩
  obtain ⟨r0, hr⟩ : ∃ r, Hid (hasP L (x0, x1) = r) := ⟨_, show _ = _ from rfl⟩
  rw [show hasP L (x0, x1) = r0 from hr.out] at HC ⊢
  clear hb0 hL
  go_enter Tryz.func149, Tryz.ntmps149
  go_wp2_with fail
  refine HC.out.mono ?_
  rintro e w1 ⟨⟨r, rfl, h⟩, hb1⟩
  obtain ⟨HB1⟩ : Nonempty (Hid (Below w.heap.size w w1)) := ⟨HB.out.trans (hb1.mono HB.out.size)⟩
  clear hb1
  go_wp2_with fail
  go_ret
  exact ⟨rfl, HB1.out⟩

theorem enters_d1 : ∀ args w, (callFunc 143 args).run Tryz.prog w = .ok (.enter 143 args) w := fun args w => by kernel_rfl
theorem enters_d2 : ∀ args w, (callFunc 144 args).run Tryz.prog w = .ok (.enter 144 args) w := fun args w => by kernel_rfl
theorem enters_a1 : ∀ args w, (callFunc 146 args).run Tryz.prog w = .ok (.enter 146 args) w := fun args w => by kernel_rfl
theorem enters_a2 : ∀ args w, (callFunc 147 args).run Tryz.prog w = .ok (.enter 147 args) w := fun args w => by kernel_rfl
theorem enters_x1 : ∀ args w, (callFunc 148 args).run Tryz.prog w = .ok (.enter 148 args) w := fun args w => by kernel_rfl

set_option linter.unusedVariables false in
set_option maxHeartbeats 1000000 in
theorem pref_drops (p : Option Addr) (L : List (Int × Int)) (cp B : Nat) (w : World) (h : Pairs w p L) (hc : w.cell? ⟨B, 0, none⟩ = some (.slice p L.length cp)) (hl : L.length ≤ 1000000) :
    Pref 143 (.pointer (some ⟨B, 0, none⟩)) L.length (fun k => L.getD k (0, 0)) w := by
  refine ⟨enters_d1, fun k W hk hb => ?_⟩
  have c0 := cell_kept (hb.trans ((below_alloc W (.cells #[.int .i64 0, .int .i64 0] 65)).mono hb.size)) hc
  obtain ⟨b, o, rfl, x0, x1⟩ := h k hk
  have d0 := cell_kept (hb.trans ((below_alloc W (.cells #[.int .i64 0, .int .i64 0] 65)).mono hb.size)) x0
  have d1 := cell_kept (hb.trans ((below_alloc W (.cells #[.int .i64 0, .int .i64 0] 65)).mono hb.size)) x1
  have hx : L.getD k (0, 0) = L[k] := by simp [List.getD, hk]
  simp only [hx]
  have q3 : (k : Int) < L.length := by omega
  obtain ⟨a, ha⟩ : ∃ x, Hid (L[k].1 = x) := ⟨_, show _ = _ from rfl⟩
  obtain ⟨n, hn⟩ : ∃ x, Hid (L[k].2 = x) := ⟨_, show _ = _ from rfl⟩
  rw [show L[k].1 = a from ha.out] at d0 ⊢
  rw [show L[k].2 = n from hn.out] at d1 ⊢
  clear x0 x1 h hc hb hx
  go_enter Tryz.func143, Tryz.ntmps143
  go_wp2_with fail
  exact bodyPost_ret (v := .agg #[.int .i64 a, .int .i64 n]) (by simp [results, Tryz.results143, go_sem]) rfl ⟨rfl, below_alloc _ _⟩
end Go.Proofs.YtbfdgflbflajdaaGreatDoor

namespace Go.Proofs.YtbfdgflbflajdaaGreatDoor
open Go.RowKit

def dropP (L : List (Int × Int)) (k : Nat) : Int × Int := L.getD k (0, 0)
def addP (L : List Ro) (k : Nat) : Int × Int := (L.getD k ro0).dst
def qD (L : List (Int × Int)) (k : Nat) : Nat := preC (dropP L) k
def qA (L : List Ro) (k : Nat) : Nat :=
  if preC (addP L) k ≠ 0 then preC (addP L) k else if (faultA (L.getD k ro0).att).1.toNat ≠ 0 then (faultA (L.getD k ro0).att).1.toNat else if (L.getD k ro0).frm ≠ 0 then 3 else 0
def qX (D : List (Int × Int)) (L : List Ro) (k : Nat) : Nat := if hasP D (addP L k) then 6 else 0
/-- all attributes of these are of a size that the walk bears. -/
def Mod (L : List Ro) : Prop := ∀ r ∈ L, r.att.path.length ≤ 1000000 ∧ r.att.tags.length ≤ 1000000
theorem addP_at (L : List Ro) (k : Nat) (h : k < L.length) : addP L k = L[k].dst := by unfold addP; simp [List.getD, h]
theorem rGetD_at (L : List Ro) (k : Nat) (h : k < L.length) : L.getD k ro0 = L[k] := by simp [List.getD, h]

set_option linter.unusedVariables false in
set_option linter.unusedSimpArgs false in
set_option maxRecDepth 100000 in
set_option maxHeartbeats 4000000 in
theorem pref_adds (p : Option Addr) (L : List Ro) (cp B : Nat) (w : World) (h : Routes w p L) (hc : w.cell? ⟨B, 0, none⟩ = some (.slice p L.length cp)) (hl : L.length ≤ 1000000) :
    Pref 146 (.pointer (some ⟨B, 0, none⟩)) L.length (addP L) w := by
  refine ⟨enters_a1, fun k W hk hb => ?_⟩
  have hb' := hb.trans ((below_alloc W (.cells #[.int .i64 0, .int .i64 0] 65)).mono hb.size)
  have c0 := cell_kept hb' hc
  obtain ⟨b, o, rfl, pp, cpp, qq, cqq, x0, x1, -⟩ := h k hk
  have d0 := cell_kept hb' x0
  have d1 := cell_kept hb' x1
  rw [addP_at L k hk]
  have q3 : (k : Int) < L.length := by omega
  obtain ⟨a, ha⟩ : ∃ x, Hid (L[k].dst.1 = x) := ⟨_, show _ = _ from rfl⟩
  obtain ⟨n, hn⟩ : ∃ x, Hid (L[k].dst.2 = x) := ⟨_, show _ = _ from rfl⟩
  rw [show L[k].dst.1 = a from ha.out] at d0 ⊢
  rw [show L[k].dst.2 = n from hn.out] at d1 ⊢
  clear x0 x1 h hc hb hb'
  go_enter Tryz.func146, Tryz.ntmps146
  go_wp2_with fail
  exact bodyPost_ret (v := .agg #[.int .i64 a, .int .i64 n]) (by simp [results, Tryz.results146, go_sem]) rfl ⟨rfl, below_alloc _ _⟩

set_option linter.unusedVariables false in
set_option linter.unusedSimpArgs false in
set_option maxRecDepth 100000 in
set_option maxHeartbeats 4000000 in
theorem told_drops (p : Option Addr) (L : List (Int × Int)) (cp B B' : Nat) (E : Nat → Addr) (m : Int) (w : World) (hE : WireEnv w E m) (h : Pairs w p L) (hc : w.cell? ⟨B, 0, none⟩ = some (.slice p L.length cp)) (hc' : w.cell? ⟨B', 0, none⟩ = some (.func (.func 143) #[] #[.pointer (some ⟨B, 0, none⟩)])) (hl : L.length ≤ 1000000) :
    Told 144 #[.pointer (some ⟨B', 0, none⟩)] E m L.length (qD L) (fun _ W => Below w.heap.size w W) (fun W => Below w.heap.size w W) := by
  refine ⟨enters_d2, fun k W hk hb => ?_, fun W hb => (hE.below hb).at1, fun W W' hb hb' => hb.trans (hb'.mono hb.size)⟩
  have c0 := cell_kept hb hc'
  obtain ⟨HC⟩ : Nonempty (Hid (Calls _ _ _ _ _)) := ⟨checkPrefix_any k _ _ L.length (dropP L) E m W (hE.below hb) ((pref_drops p L cp B w h hc hl).below hb) hk hl⟩
  unfold qD
  obtain ⟨c, hcc⟩ : ∃ c, Hid (preC (dropP L) k = c) := ⟨_, show _ = _ from rfl⟩
  rw [show preC (dropP L) k = c from hcc.out] at HC ⊢
  obtain ⟨u, hu⟩ : ∃ u, Hid (ev E c = u) := ⟨_, show _ = _ from rfl⟩
  rw [show ev E c = u from hu.out] at HC
  obtain ⟨HB⟩ : Nonempty (Hid (Below w.heap.size w W)) := ⟨hb⟩
  clear hE h hc hc' hb
  show Calls Tryz.prog _ #[.int .i64 (k : Int), .pointer (some ⟨B', 0, none⟩)] W _
  go_enter Tryz.func144, Tryz.ntmps144
  go_wp2_with fail
  refine HC.out.mono ?_
  rintro e w1 ⟨rfl, hb1⟩
  obtain ⟨HB1⟩ : Nonempty (Hid (Below w.heap.size w w1)) := ⟨HB.out.trans (hb1.mono HB.out.size)⟩
  clear hb1
  go_wp2_with fail
  go_ret
  exact ⟨⟨u, -1, rfl, .inl ⟨rfl, hu.out.symm⟩⟩, fun _ => HB1.out, fun _ => HB1.out⟩

set_option linter.unusedVariables false in
set_option linter.unusedSimpArgs false in
set_option maxRecDepth 100000 in
set_option maxHeartbeats 4000000 in
theorem told_adds (p : Option Addr) (L : List Ro) (cp B B' : Nat) (E : Nat → Addr) (m : Int) (w : World) (hE : WireEnv w E m) (h : Routes w p L) (hc : w.cell? ⟨B, 0, none⟩ = some (.slice p L.length cp)) (hc' : w.cell? ⟨B', 0, none⟩ = some (.func (.func 146) #[] #[.pointer (some ⟨B, 0, none⟩)])) (hl : L.length ≤ 1000000) (hm : Mod L) :
    Told 147 #[.pointer (some ⟨B', 0, none⟩), .pointer (some ⟨B, 0, none⟩)] E m L.length (qA L) (fun _ W => Below w.heap.size w W) (fun W => Below w.heap.size w W) := by
  refine ⟨enters_a2, fun k W hk hb => ?_, fun W hb => (hE.below hb).at1, fun W W' hb hb' => hb.trans (hb'.mono hb.size)⟩
  have c0 := cell_kept hb hc'
  obtain ⟨HC⟩ : Nonempty (Hid (Calls _ _ _ _ _)) := ⟨checkPrefix_any k _ _ L.length (addP L) E m W (hE.below hb) ((pref_adds p L cp B w h hc hl).below hb) hk hl⟩
  obtain ⟨HCB⟩ : Nonempty (Hid (w.cell? ⟨B, 0, none⟩ = some (.slice p L.length cp))) := ⟨hc⟩
  have hmk := hm L[k] (List.getElem_mem hk)
  unfold qA
  rw [rGetD_at L k hk]
  obtain ⟨c, hcc⟩ : ∃ c, Hid (preC (addP L) k = c) := ⟨_, show _ = _ from rfl⟩
  rw [show preC (addP L) k = c from hcc.out] at HC ⊢
  obtain ⟨HB⟩ : Nonempty (Hid (Below w.heap.size w W)) := ⟨hb⟩
  obtain ⟨HR⟩ : Nonempty (Hid (WireEnv w E m ∧ Routes w p L)) := ⟨⟨hE, h⟩⟩
  have q3 : (k : Int) < L.length := by omega
  clear hE h hc hc' hb hm
  show Calls Tryz.prog _ #[.int .i64 (k : Int), .pointer (some ⟨B', 0, none⟩), .pointer (some ⟨B, 0, none⟩)] W _
  cases c with
  | succ c =>
    rw [if_pos (by omega)]
    simp only [ev] at HC
    obtain ⟨u, hu⟩ : ∃ u, Hid (E c = u) := ⟨_, show _ = _ from rfl⟩
    rw [show E c = u from hu.out] at HC
    go_enter Tryz.func147, Tryz.ntmps147
    go_wp2_with fail
    refine HC.out.mono ?_
    rintro e w1 ⟨rfl, hb1⟩
    obtain ⟨HB1⟩ : Nonempty (Hid (Below w.heap.size w w1)) := ⟨HB.out.trans (hb1.mono HB.out.size)⟩
    clear hb1
    go_wp2_with fail
    go_ret
    exact ⟨⟨_, -1, rfl, .inl ⟨rfl, by rw [← hu.out]; rfl⟩⟩, fun _ => HB1.out, fun _ => HB1.out⟩
  | zero =>
    rw [if_neg (by omega)]
    simp only [ev] at HC
    obtain ⟨r, hr⟩ : ∃ r, Hid (L[k] = r) := ⟨_, show _ = _ from rfl⟩
    obtain ⟨b, o, rfl, hra⟩ := HR.out.2 k hk
    rw [show L[k] = r from hr.out] at hra hmk ⊢
    obtain ⟨HRA⟩ : Nonempty (Hid (RouteAt w b (o + k * 8) r)) := ⟨hra⟩
    clear hra
    obtain ⟨f, hf⟩ : ∃ f, Hid ((faultA r.att).1.toNat = f) := ⟨_, show _ = _ from rfl⟩
    obtain ⟨g, hg⟩ : ∃ g, Hid ((faultA r.att).2 = g) := ⟨_, show _ = _ from rfl⟩
    rw [show (faultA r.att).1.toNat = f from hf.out]
    obtain ⟨qk, hqk⟩ : ∃ q, Hid ((if f ≠ 0 then f else if r.frm ≠ 0 then 3 else 0) = q) := ⟨_, show _ = _ from rfl⟩
    rw [show (if f ≠ 0 then f else if r.frm ≠ 0 then 3 else 0) = qk from hqk.out]
    go_enter Tryz.func147, Tryz.ntmps147
    go_wp2_with fail
    refine HC.out.mono ?_
    rintro e w1 ⟨rfl, hb1⟩
    obtain ⟨HB1⟩ : Nonempty (Hid (Below w.heap.size w w1)) := ⟨HB.out.trans (hb1.mono HB.out.size)⟩
    have cb := cell_kept HB1.out HCB.out
    have hra := HRA.out.below HB1.out
    obtain ⟨pp, cpp, qq, cqq, x0, x1, x2, x3, x4, x5, x6, x7, i1, i2⟩ := hra
    obtain ⟨HCK⟩ : Nonempty (Hid (Calls _ _ _ _ _)) := ⟨aCheck_any (.agg #[.slice pp r.att.path.length cpp, .int .i64 r.att.pref, .int .i64 r.att.med, .int .i64 r.att.org, .slice qq r.att.tags.length cqq]) r.att E m w1 (HR.out.1.below HB1.out).at1 ⟨pp, cpp, qq, cqq, rfl, i1, i2⟩ hmk.1 hmk.2⟩
    rw [show (faultA r.att).1.toNat = f from hf.out, show (faultA r.att).2 = g from hg.out] at HCK
    clear hb1 i1 i2 x0 x1 hmk
    go_wp2_with fail
    refine HCK.out.mono ?_
    rintro e w2 ⟨⟨v, rfl, hv⟩, hb2⟩
    obtain ⟨HB2⟩ : Nonempty (Hid (Below w.heap.size w w2)) := ⟨HB1.out.trans (hb2.mono HB1.out.size)⟩
    obtain ⟨HV⟩ : Nonempty (Hid (IsErr w2 E v f g)) := ⟨hv⟩
    have y7 := cell_kept hb2 x7
    have cb2 := cell_kept HB2.out HCB.out
    have es := (HR.out.1.below HB2.out).shape
    clear hb2 x2 x3 x4 x5 x6 x7 cb
    rcases isErr_cases hv with ⟨rfl, rfl⟩ | ⟨hpos, t, a, rfl⟩
    · clear hv
      by_cases h0 : r.frm = 0
      · have HQ : Hid (qk = 0) := by
          show _ = _
          rw [← hqk.out, if_neg (by omega), if_neg (by omega)]
        rw [h0] at y7
        clear h0 hqk
        go_wp2_with fail
        go_ret
        rw [HQ.out]
        exact ⟨⟨_, -1, rfl, .inl ⟨rfl, rfl⟩⟩, fun _ => HB2.out, fun _ => HB2.out⟩
      · have HQ : Hid (qk = 3) := by
          show _ = _
          rw [← hqk.out, if_neg (by omega), if_pos h0]
        have h0' : (r.frm == 0) = false := beq_eq_false_iff_ne.2 h0
        obtain ⟨rf, hrf⟩ : ∃ x, Hid (r.frm = x) := ⟨_, show _ = _ from rfl⟩
        rw [show r.frm = rf from hrf.out] at y7 h0'
        clear h0 hqk
        go_wp2_with fail
        go_ret
        rw [HQ.out]
        exact ⟨⟨_, -1, rfl, .inl ⟨rfl, rfl⟩⟩, fun h => by simp at h, fun _ => HB2.out⟩
    · clear hv
      have HQ : Hid (qk = f) := by
        show _ = _
        rw [← hqk.out, if_pos (by omega)]
      clear hqk
      go_wp2_with fail
      go_ret
      rw [HQ.out]
      exact ⟨⟨_, g, rfl, HV.out⟩, fun _ => HB2.out, fun _ => HB2.out⟩

set_option linter.unusedVariables false in
set_option linter.unusedSimpArgs false in
set_option maxRecDepth 100000 in
set_option maxHeartbeats 4000000 in
theorem told_apart (pd p : Option Addr) (D : List (Int × Int)) (L : List Ro) (cd cl B B' : Nat) (E : Nat → Addr) (m : Int) (w : World) (hE : WireEnv w E m) (hD : Pairs w pd D) (h : Routes w p L) (hc : w.cell? ⟨B, 0, none⟩ = some (.slice pd D.length cd)) (hc' : w.cell? ⟨B', 0, none⟩ = some (.slice p L.length cl)) (hd : D.length ≤ 1000000) (hl : L.length ≤ 1000000) :
    Told 148 #[.pointer (some ⟨B, 0, none⟩), .pointer (some ⟨B', 0, none⟩)] E m L.length (qX D L) (fun _ W => Below w.heap.size w W) (fun W => Below w.heap.size w W) := by
  refine ⟨enters_x1, fun k W hk hb => ?_, fun W hb => (hE.below hb).at1, fun W W' hb hb' => hb.trans (hb'.mono hb.size)⟩
  have c0 := cell_kept hb hc
  have c1 := cell_kept hb hc'
  obtain ⟨b, o, rfl, pp, cpp, qq, cqq, x0, x1, -⟩ := h k hk
  have d0 := cell_kept hb x0
  have d1 := cell_kept hb x1
  have q3 : (k : Int) < L.length := by omega
  unfold qX
  rw [addP_at L k hk]
  obtain ⟨a, ha⟩ : ∃ x, Hid (L[k].dst.1 = x) := ⟨_, show _ = _ from rfl⟩
  obtain ⟨n, hn⟩ : ∃ x, Hid (L[k].dst.2 = x) := ⟨_, show _ = _ from rfl⟩
  rw [show L[k].dst = (a, n) from Prod.ext ha.out hn.out]
  rw [show L[k].dst.1 = a from ha.out] at d0
  rw [show L[k].dst.2 = n from hn.out] at d1
  have HKC : Hid (∀ w', Below W.heap.size W w' → w'.cell? ⟨B, 0, none⟩ = some (.slice pd D.length cd) ∧ w'.cell? ⟨B', 0, none⟩ = some (.slice (some ⟨b, o, none⟩) L.length cl) ∧ w'.cell? ⟨b, o + k * 8, none⟩ = some (.int .i64 a) ∧ w'.cell? ⟨b, o + k * 8 + 1, none⟩ = some (.int .i64 n)) := fun w' hb' => ⟨cell_kept hb' c0, cell_kept hb' c1, cell_kept hb' d0, cell_kept hb' d1⟩
  have HC : Hid (∀ w', Below W.heap.size W w' → Calls _ _ _ _ _) := fun w' hb' => containsP_any D pd cd a n w' (hD.below (hb.trans (hb'.mono hb.size))) (by omega)
  obtain ⟨x, hx⟩ : ∃ x, Hid (hasP D (a, n) = x) := ⟨_, show _ = _ from rfl⟩
  rw [show hasP D (a, n) = x from hx.out] at HC ⊢
  obtain ⟨qk, hqk⟩ : ∃ q, Hid ((if x then 6 else 0) = q) := ⟨_, show _ = _ from rfl⟩
  rw [show (if x then 6 else 0) = qk from hqk.out]
  obtain ⟨HB⟩ : Nonempty (Hid (Below w.heap.size w W)) := ⟨hb⟩
  have HX : Hid (∀ w', Below W.heap.size W w' → w'.cell? ⟨7, 0, none⟩ = some (.iface 224 (.pointer (some (E 5))))) := fun w' hb' => cell_kept hb' (hE.below hb).exist
  clear hE h hc hc' hb hD x0 x1 c0 c1 d0 d1
  show Calls Tryz.prog _ #[.int .i64 (k : Int), .pointer (some ⟨B, 0, none⟩), .pointer (some ⟨B', 0, none⟩)] W _
  cases x with
  | true =>
    have HQ : Hid (qk = 6) := by
      show _ = _
      rw [← hqk.out, if_pos rfl]
    clear hqk hx
    go_enter Tryz.func148, Tryz.ntmps148
    go_wp2
    refine wp_region_held_drew (S := (fun w' => w'.cell? ⟨B, 0, none⟩ = some (.slice pd D.length cd) ∧ w'.cell? ⟨B', 0, none⟩ = some (.slice (some ⟨b, o, none⟩) L.length cl) ∧ w'.cell? ⟨b, o + k * 8, none⟩ = some (.int .i64 a) ∧ w'.cell? ⟨b, o + k * 8 + 1, none⟩ = some (.int .i64 n))) (by kernel_rfl) ?_ (fun hHeld => ?_)
    · exact HKC.out _ (Below.drew (Below.refl _ _))
    refine wpAnyH_take (i := 0) (v := ?_) rfl (by kernel_rfl) (by kernel_rfl) (by kernel_rfl) (fun _ _ _ h => h) (Or.inl ⟨by rfl, ?_⟩) (by assumption) ?_
    rotate_left
    · (intro w hSw; (try dsimp only at hSw); go_simp; try (with_reducible rfl))
    try simp only [Act.put, List.setIfInBounds_toArray, List.set_cons_zero, List.set_cons_succ, List.getElem_toArray, List.getElem_cons_zero, List.getElem_cons_succ]
    refine wpAnyH_take (i := 1) (v := ?_) rfl (by kernel_rfl) (by kernel_rfl) (by kernel_rfl) (fun _ _ _ h => h) (Or.inl ⟨by rfl, ?_⟩) (by assumption) ?_
    rotate_left
    · (intro w hSw; (try dsimp only at hSw); go_simp; try (with_reducible rfl))
    try simp only [Act.put, List.setIfInBounds_toArray, List.set_cons_zero, List.set_cons_succ, List.getElem_toArray, List.getElem_cons_zero, List.getElem_cons_succ]
    refine wpAnyH_take (i := 2) (v := ?_) rfl (by kernel_rfl) (by kernel_rfl) (by kernel_rfl) (fun _ _ _ h => h) (Or.inl ⟨by rfl, ?_⟩) (by assumption) ?_
    rotate_left
    · (intro w hSw; (try dsimp only at hSw); go_simp; try (with_reducible rfl))
    try simp only [Act.put, List.setIfInBounds_toArray, List.set_cons_zero, List.set_cons_succ, List.getElem_toArray, List.getElem_cons_zero, List.getElem_cons_succ]
    refine wpAnyH_take (i := 3) (v := ?_) rfl (by kernel_rfl) (by kernel_rfl) (by kernel_rfl) (fun _ _ _ h => h) (Or.inl ⟨by rfl, ?_⟩) (by assumption) ?_
    rotate_left
    · (intro w hSw; (try dsimp only at hSw); go_simp; try (with_reducible rfl))
    try simp only [Act.put, List.setIfInBounds_toArray, List.set_cons_zero, List.set_cons_succ, List.getElem_toArray, List.getElem_cons_zero, List.getElem_cons_succ]
    refine wpAnyH_take (i := 4) (v := ?_) rfl (by kernel_rfl) (by kernel_rfl) (by kernel_rfl) (fun _ _ _ h => h) (Or.inl ⟨by rfl, ?_⟩) (by assumption) ?_
    rotate_left
    · (intro w hSw; (try dsimp only at hSw); go_simp; try (with_reducible rfl))
    try simp only [Act.put, List.setIfInBounds_toArray, List.set_cons_zero, List.set_cons_succ, List.getElem_toArray, List.getElem_cons_zero, List.getElem_cons_succ]
    refine wpAnyH_take (i := 5) (v := ?_) rfl (by kernel_rfl) (by kernel_rfl) (by kernel_rfl) (fun _ _ _ h => h) (Or.inl ⟨by rfl, ?_⟩) (by assumption) ?_
    rotate_left
    · (intro w hSw; (try dsimp only at hSw); go_simp; try (with_reducible rfl))
    try simp only [Act.put, List.setIfInBounds_toArray, List.set_cons_zero, List.set_cons_succ, List.getElem_toArray, List.getElem_cons_zero, List.getElem_cons_succ]
    refine wpAnyH_ready (rs := [6]) (by kernel_rfl) (by simp) ?_
    refine AllReadyH.cons rfl (fun K hK => ?_) AllReadyH.nil
    go_simp
    refine (HC.out _ (Below.drew (Below.refl _ _))).mono ?_
    rintro e w1 ⟨rfl, hb1⟩
    have hKeep := HKC.out _ ((Below.drew (Below.refl _ _)).trans hb1)
    obtain ⟨HB1⟩ : Nonempty (Hid (Below W.heap.size W w1)) := ⟨(Below.drew (Below.refl _ _)).trans hb1⟩
    clear hb1 hHeld
    refine hK.out _ _ ?_ (fun hHeld => ?_)
    · exact hKeep
    clear hK K
    try simp only [Act.put, List.setIfInBounds_toArray, List.set_cons_zero, List.set_cons_succ, List.getElem_toArray, List.getElem_cons_zero, List.getElem_cons_succ]
    refine wpAnyH_done (by kernel_rfl) ?_ _
    have ex := HX.out _ HB1.out
    go_wp2_with fail
    go_ret
    rw [HQ.out]
    exact ⟨⟨_, -1, rfl, .inl ⟨rfl, rfl⟩⟩, fun h => by simp at h, fun _ => HB.out.trans (HB1.out.mono HB.out.size)⟩
  | false =>
    have HQ : Hid (qk = 0) := by
      show _ = _
      rw [← hqk.out, if_neg (by simp)]
    clear hqk hx
    go_enter Tryz.func148, Tryz.ntmps148
    go_wp2
    refine wp_region_held_drew (S := (fun w' => w'.cell? ⟨B, 0, none⟩ = some (.slice pd D.length cd) ∧ w'.cell? ⟨B', 0, none⟩ = some (.slice (some ⟨b, o, none⟩) L.length cl) ∧ w'.cell? ⟨b, o + k * 8, none⟩ = some (.int .i64 a) ∧ w'.cell? ⟨b, o + k * 8 + 1, none⟩ = some (.int .i64 n))) (by kernel_rfl) ?_ (fun hHeld => ?_)
    · exact HKC.out _ (Below.drew (Below.refl _ _))
    refine wpAnyH_take (i := 0) (v := ?_) rfl (by kernel_rfl) (by kernel_rfl) (by kernel_rfl) (fun _ _ _ h => h) (Or.inl ⟨by rfl, ?_⟩) (by assumption) ?_
    rotate_left
    · (intro w hSw; (try dsimp only at hSw); go_simp; try (with_reducible rfl))
    try simp only [Act.put, List.setIfInBounds_toArray, List.set_cons_zero, List.set_cons_succ, List.getElem_toArray, List.getElem_cons_zero, List.getElem_cons_succ]
    refine wpAnyH_take (i := 1) (v := ?_) rfl (by kernel_rfl) (by kernel_rfl) (by kernel_rfl) (fun _ _ _ h => h) (Or.inl ⟨by rfl, ?_⟩) (by assumption) ?_
    rotate_left
    · (intro w hSw; (try dsimp only at hSw); go_simp; try (with_reducible rfl))
    try simp only [Act.put, List.setIfInBounds_toArray, List.set_cons_zero, List.set_cons_succ, List.getElem_toArray, List.getElem_cons_zero, List.getElem_cons_succ]
    refine wpAnyH_take (i := 2) (v := ?_) rfl (by kernel_rfl) (by kernel_rfl) (by kernel_rfl) (fun _ _ _ h => h) (Or.inl ⟨by rfl, ?_⟩) (by assumption) ?_
    rotate_left
    · (intro w hSw; (try dsimp only at hSw); go_simp; try (with_reducible rfl))
    try simp only [Act.put, List.setIfInBounds_toArray, List.set_cons_zero, List.set_cons_succ, List.getElem_toArray, List.getElem_cons_zero, List.getElem_cons_succ]
    refine wpAnyH_take (i := 3) (v := ?_) rfl (by kernel_rfl) (by kernel_rfl) (by kernel_rfl) (fun _ _ _ h => h) (Or.inl ⟨by rfl, ?_⟩) (by assumption) ?_
    rotate_left
    · (intro w hSw; (try dsimp only at hSw); go_simp; try (with_reducible rfl))
    try simp only [Act.put, List.setIfInBounds_toArray, List.set_cons_zero, List.set_cons_succ, List.getElem_toArray, List.getElem_cons_zero, List.getElem_cons_succ]
    refine wpAnyH_take (i := 4) (v := ?_) rfl (by kernel_rfl) (by kernel_rfl) (by kernel_rfl) (fun _ _ _ h => h) (Or.inl ⟨by rfl, ?_⟩) (by assumption) ?_
    rotate_left
    · (intro w hSw; (try dsimp only at hSw); go_simp; try (with_reducible rfl))
    try simp only [Act.put, List.setIfInBounds_toArray, List.set_cons_zero, List.set_cons_succ, List.getElem_toArray, List.getElem_cons_zero, List.getElem_cons_succ]
    refine wpAnyH_take (i := 5) (v := ?_) rfl (by kernel_rfl) (by kernel_rfl) (by kernel_rfl) (fun _ _ _ h => h) (Or.inl ⟨by rfl, ?_⟩) (by assumption) ?_
    rotate_left
    · (intro w hSw; (try dsimp only at hSw); go_simp; try (with_reducible rfl))
    try simp only [Act.put, List.setIfInBounds_toArray, List.set_cons_zero, List.set_cons_succ, List.getElem_toArray, List.getElem_cons_zero, List.getElem_cons_succ]
    refine wpAnyH_ready (rs := [6]) (by kernel_rfl) (by simp) ?_
    refine AllReadyH.cons rfl (fun K hK => ?_) AllReadyH.nil
    go_simp
    refine (HC.out _ (Below.drew (Below.refl _ _))).mono ?_
    rintro e w1 ⟨rfl, hb1⟩
    have hKeep := HKC.out _ ((Below.drew (Below.refl _ _)).trans hb1)
    obtain ⟨HB1⟩ : Nonempty (Hid (Below W.heap.size W w1)) := ⟨(Below.drew (Below.refl _ _)).trans hb1⟩
    clear hb1 hHeld
    refine hK.out _ _ ?_ (fun hHeld => ?_)
    · exact hKeep
    clear hK K
    try simp only [Act.put, List.setIfInBounds_toArray, List.set_cons_zero, List.set_cons_succ, List.getElem_toArray, List.getElem_cons_zero, List.getElem_cons_succ]
    refine wpAnyH_done (by kernel_rfl) ?_ _
    go_wp2_with fail
    go_ret
    rw [HQ.out]
    exact ⟨⟨_, -1, rfl, .inl ⟨rfl, rfl⟩⟩, fun h => HB.out.trans (HB1.out.mono HB.out.size), fun h => absurd rfl h⟩

theorem below_of_told {n : Nat} {q : Nat → Nat} {E : Nat → Addr} {w : World} {r : Ending} {w' : World} (h : (∃ v, r = .returned v ∧ IsErr w' E v (firstQ q n).1 (firstQ q n).2) ∧ ((firstQ q n).1 = 0 → Below w.heap.size w w') ∧ ((firstQ q n).1 ≠ 0 → Below w.heap.size w w')) :
    (∃ v, r = .returned v ∧ IsErr w' E v (firstQ q n).1 (firstQ q n).2) ∧ Below w.heap.size w w' := by
  refine ⟨h.1, ?_⟩
  by_cases h0 : (firstQ q n).1 = 0
  · exact h.2.1 h0
  · exact h.2.2 h0

set_option linter.unusedVariables false in
set_option linter.unusedSimpArgs false in
set_option maxRecDepth 100000 in
set_option maxHeartbeats 4000000 in
theorem checkDrops_any (p : Option Addr) (L : List (Int × Int)) (cp : Nat) (E : Nat → Addr) (m : Int) (w : World) (hE : WireEnv w E m) (h : Pairs w p L) (hl : L.length ≤ 1000000) :
    Calls Tryz.prog 121 #[.slice p L.length cp] w fun r w' => (∃ v, r = .returned v ∧ IsErr w' E v (firstQ (qD L) L.length).1 (firstQ (qD L) L.length).2) ∧ Below w.heap.size w w' := by
  have hb1 := below_alloc w (.cells #[.slice p L.length cp] 52)
  have c1 := box_one w (.slice p L.length cp) 52
  have hb2 := below_alloc (w.alloc (.cells #[.slice p L.length cp] 52)) (.cells #[.func (.func 143) #[] #[.pointer (some ⟨w.heap.size, 0, none⟩)]] 197)
  have c2 := box_one (w.alloc (.cells #[.slice p L.length cp] 52)) (.func (.func 143) #[] #[.pointer (some ⟨w.heap.size, 0, none⟩)]) 197
  rw [show (w.alloc (.cells #[.slice p L.length cp] 52)).heap.size = w.heap.size + 1 by simp] at c2
  have hbb := hb1.trans (hb2.mono hb1.size)
  obtain ⟨HC⟩ : Nonempty (Hid (Calls _ _ _ _ _)) := ⟨first_any L.length _ _ E m (qD L) _ _ _ (told_drops p L cp w.heap.size (w.heap.size + 1) E m _ (hE.below hbb) (h.below hbb) (cell_kept hb2 c1) c2 hl) (Below.refl _ _) hl⟩
  obtain ⟨HB⟩ : Nonempty (Hid (Below w.heap.size w _)) := ⟨hbb⟩
  clear hb1 hb2 c1 c2 hbb hE h
  obtain ⟨c, hc⟩ : ∃ c, Hid (firstQ (qD L) L.length = c) := ⟨_, show _ = _ from rfl⟩
  rw [show firstQ (qD L) L.length = c from hc.out] at HC ⊢
  go_enter Tryz.func121, Tryz.ntmps121
  go_wp2_with fail
  refine HC.out.mono ?_
  rintro e w1 ⟨⟨v, rfl, hv⟩, h1, h2⟩
  have hb3 := (Decidable.em (c.1 = 0)).elim h1 h2
  obtain ⟨HV⟩ : Nonempty (Hid (IsErr w1 E v c.1 c.2 ∧ Below w.heap.size w w1)) := ⟨⟨hv, HB.out.trans (hb3.mono HB.out.size)⟩⟩
  clear hv hb3 h1 h2
  go_wp2_with fail
  go_ret
  exact ⟨⟨v, rfl, HV.out.1⟩, HV.out.2⟩

set_option linter.unusedVariables false in
set_option linter.unusedSimpArgs false in
set_option maxRecDepth 100000 in
set_option maxHeartbeats 4000000 in
theorem checkAdds_any (p : Option Addr) (L : List Ro) (cp : Nat) (E : Nat → Addr) (m : Int) (w : World) (hE : WireEnv w E m) (h : Routes w p L) (hl : L.length ≤ 1000000) (hm : Mod L) :
    Calls Tryz.prog 122 #[.slice p L.length cp] w fun r w' => (∃ v, r = .returned v ∧ IsErr w' E v (firstQ (qA L) L.length).1 (firstQ (qA L) L.length).2) ∧ Below w.heap.size w w' := by
  have hb1 := below_alloc w (.cells #[.slice p L.length cp] 53)
  have c1 := box_one w (.slice p L.length cp) 53
  have hb2 := below_alloc (w.alloc (.cells #[.slice p L.length cp] 53)) (.cells #[.func (.func 146) #[] #[.pointer (some ⟨w.heap.size, 0, none⟩)]] 197)
  have c2 := box_one (w.alloc (.cells #[.slice p L.length cp] 53)) (.func (.func 146) #[] #[.pointer (some ⟨w.heap.size, 0, none⟩)]) 197
  rw [show (w.alloc (.cells #[.slice p L.length cp] 53)).heap.size = w.heap.size + 1 by simp] at c2
  have hbb := hb1.trans (hb2.mono hb1.size)
  obtain ⟨HC⟩ : Nonempty (Hid (Calls _ _ _ _ _)) := ⟨first_any L.length _ _ E m (qA L) _ _ _ (told_adds p L cp w.heap.size (w.heap.size + 1) E m _ (hE.below hbb) (h.below hbb) (cell_kept hb2 c1) c2 hl hm) (Below.refl _ _) hl⟩
  obtain ⟨HB⟩ : Nonempty (Hid (Below w.heap.size w _)) := ⟨hbb⟩
  clear hb1 hb2 c1 c2 hbb hE h
  obtain ⟨c, hc⟩ : ∃ c, Hid (firstQ (qA L) L.length = c) := ⟨_, show _ = _ from rfl⟩
  rw [show firstQ (qA L) L.length = c from hc.out] at HC ⊢
  go_enter Tryz.func122, Tryz.ntmps122
  go_wp2_with fail
  refine HC.out.mono ?_
  rintro e w1 ⟨⟨v, rfl, hv⟩, h1, h2⟩
  have hb3 := (Decidable.em (c.1 = 0)).elim h1 h2
  obtain ⟨HV⟩ : Nonempty (Hid (IsErr w1 E v c.1 c.2 ∧ Below w.heap.size w w1)) := ⟨⟨hv, HB.out.trans (hb3.mono HB.out.size)⟩⟩
  clear hv hb3 h1 h2
  go_wp2_with fail
  go_ret
  exact ⟨⟨v, rfl, HV.out.1⟩, HV.out.2⟩

set_option linter.unusedVariables false in
set_option linter.unusedSimpArgs false in
set_option maxRecDepth 100000 in
set_option maxHeartbeats 4000000 in
theorem checkApart_any (pd p : Option Addr) (D : List (Int × Int)) (L : List Ro) (cd cl : Nat) (E : Nat → Addr) (m : Int) (w : World) (hE : WireEnv w E m) (hD : Pairs w pd D) (h : Routes w p L) (hd : D.length ≤ 1000000) (hl : L.length ≤ 1000000) :
    Calls Tryz.prog 123 #[.slice pd D.length cd, .slice p L.length cl] w fun r w' => (∃ v, r = .returned v ∧ IsErr w' E v (firstQ (qX D L) L.length).1 (firstQ (qX D L) L.length).2) ∧ Below w.heap.size w w' := by
  have hb1 := below_alloc w (.cells #[.slice pd D.length cd] 52)
  have c1 := box_one w (.slice pd D.length cd) 52
  have hb2 := below_alloc (w.alloc (.cells #[.slice pd D.length cd] 52)) (.cells #[.slice p L.length cl] 53)
  have c2 := box_one (w.alloc (.cells #[.slice pd D.length cd] 52)) (.slice p L.length cl) 53
  rw [show (w.alloc (.cells #[.slice pd D.length cd] 52)).heap.size = w.heap.size + 1 by simp] at c2
  have hbb := hb1.trans (hb2.mono hb1.size)
  obtain ⟨HC⟩ : Nonempty (Hid (Calls _ _ _ _ _)) := ⟨first_any L.length _ _ E m (qX D L) _ _ _ (told_apart pd p D L cd cl w.heap.size (w.heap.size + 1) E m _ (hE.below hbb) (hD.below hbb) (h.below hbb) (cell_kept hb2 c1) c2 hd hl) (Below.refl _ _) hl⟩
  obtain ⟨HB⟩ : Nonempty (Hid (Below w.heap.size w _)) := ⟨hbb⟩
  clear hb1 hb2 c1 c2 hbb hE h hD
  obtain ⟨c, hc⟩ : ∃ c, Hid (firstQ (qX D L) L.length = c) := ⟨_, show _ = _ from rfl⟩
  rw [show firstQ (qX D L) L.length = c from hc.out] at HC ⊢
  go_enter Tryz.func123, Tryz.ntmps123
  go_wp2_with fail
  refine HC.out.mono ?_
  rintro e w1 ⟨⟨v, rfl, hv⟩, h1, h2⟩
  have hb3 := (Decidable.em (c.1 = 0)).elim h1 h2
  obtain ⟨HV⟩ : Nonempty (Hid (IsErr w1 E v c.1 c.2 ∧ Below w.heap.size w w1)) := ⟨⟨hv, HB.out.trans (hb3.mono HB.out.size)⟩⟩
  clear hv hb3 h1 h2
  go_wp2_with fail
  go_ret
  exact ⟨⟨v, rfl, HV.out.1⟩, HV.out.2⟩
end Go.Proofs.YtbfdgflbflajdaaGreatDoor

namespace Go.Proofs.YtbfdgflbflajdaaGreatDoor
open Go.RowKit

def newsC (D : List (Int × Int)) (L : List Ro) : Nat × Int :=
  if 60 < D.length ∨ 60 < L.length then (7, -1)
  else if (firstQ (qD D) D.length).1 ≠ 0 then firstQ (qD D) D.length
  else if (firstQ (qA L) L.length).1 ≠ 0 then firstQ (qA L) L.length
  else firstQ (qX D L) L.length
def msgC (M : Ms) : Nat × Int :=
  if headC M.kind M.n ≠ 0 then (headC M.kind M.n, -1)
  else if M.kind = kNews then newsC M.drops M.adds
  else if 0 < M.drops.length ∨ 0 < M.adds.length then (3, -1) else (0, -1)

set_option linter.unusedVariables false in
set_option maxRecDepth 100000 in
set_option maxHeartbeats 4000000 in
theorem checkNews_any (pd p : Option Addr) (D : List (Int × Int)) (L : List Ro) (cd cl : Nat) (E : Nat → Addr) (m : Int) (w : World) (hE : WireEnv w E m) (hD : Pairs w pd D) (h : Routes w p L) (hd : D.length ≤ 1000000) (hl : L.length ≤ 1000000) (hm : Mod L) :
    Calls Tryz.prog 94 #[.slice pd D.length cd, .slice p L.length cl] w fun r w' => (∃ v, r = .returned v ∧ IsErr w' E v (newsC D L).1 (newsC D L).2) ∧ Below w.heap.size w w' := by
  have ef := hE.at1.full
  obtain ⟨HC1⟩ : Nonempty (Hid (Calls _ _ _ _ _)) := ⟨checkDrops_any pd D cd E m w hE hD hd⟩
  have HC2 : Hid (∀ w', Below w.heap.size w w' → Calls _ _ _ _ _) := fun w' hb => checkAdds_any p L cl E m w' (hE.below hb) (h.below hb) hl hm
  have HC3 : Hid (∀ w', Below w.heap.size w w' → Calls _ _ _ _ _) := fun w' hb => checkApart_any pd p D L cd cl E m w' (hE.below hb) (hD.below hb) (h.below hb) hd hl
  obtain ⟨c0, hc0⟩ : ∃ c, Hid (newsC D L = c) := ⟨_, show _ = _ from rfl⟩
  obtain ⟨c1, hc1⟩ : ∃ c, Hid (firstQ (qD D) D.length = c) := ⟨_, show _ = _ from rfl⟩
  obtain ⟨c2, hc2⟩ : ∃ c, Hid (firstQ (qA L) L.length = c) := ⟨_, show _ = _ from rfl⟩
  obtain ⟨c3, hc3⟩ : ∃ c, Hid (firstQ (qX D L) L.length = c) := ⟨_, show _ = _ from rfl⟩
  have HN : Hid (c0 = if 60 < D.length ∨ 60 < L.length then (7, -1) else if c1.1 ≠ 0 then c1 else if c2.1 ≠ 0 then c2 else c3) := by
    show _ = _
    rw [← hc0.out, ← hc1.out, ← hc2.out, ← hc3.out]; rfl
  rw [show newsC D L = c0 from hc0.out]
  rw [show firstQ (qD D) D.length = c1 from hc1.out] at HC1
  rw [show firstQ (qA L) L.length = c2 from hc2.out] at HC2
  rw [show firstQ (qX D L) L.length = c3 from hc3.out] at HC3
  clear hc0 hc1 hc2 hc3 hE hD h hm
  by_cases g1 : 60 < D.length
  · have g1' : decide (60 < (D.length : Int)) = true := decide_eq_true (by omega)
    have HF : Hid (c0 = (7, -1)) := by
      show _ = _
      rw [HN.out, if_pos (.inl g1)]
    go_enter Tryz.func94, Tryz.ntmps94
    go_wp2_with fail
    go_ret
    rw [HF.out]
    exact ⟨⟨_, rfl, .inl ⟨rfl, rfl⟩⟩, Below.refl _ _⟩
  have g1' : decide (60 < (D.length : Int)) = false := decide_eq_false (by omega)
  by_cases g2 : 60 < L.length
  · have g2' : decide (60 < (L.length : Int)) = true := decide_eq_true (by omega)
    have HF : Hid (c0 = (7, -1)) := by
      show _ = _
      rw [HN.out, if_pos (.inr g2)]
    go_enter Tryz.func94, Tryz.ntmps94
    go_wp2_with fail
    go_ret
    rw [HF.out]
    exact ⟨⟨_, rfl, .inl ⟨rfl, rfl⟩⟩, Below.refl _ _⟩
  have g2' : decide (60 < (L.length : Int)) = false := decide_eq_false (by omega)
  have HN2 : Hid (c0 = if c1.1 ≠ 0 then c1 else if c2.1 ≠ 0 then c2 else c3) := by
    show _ = _
    rw [HN.out, if_neg (by omega)]
  clear HN g1 g2 ef
  go_enter Tryz.func94, Tryz.ntmps94
  go_wp2_with fail
  refine HC1.out.mono ?_
  rintro e w1 ⟨⟨v1, rfl, hv1⟩, hb1⟩
  obtain ⟨HV1⟩ : Nonempty (Hid (IsErr w1 E v1 c1.1 c1.2 ∧ Below w.heap.size w w1)) := ⟨⟨hv1, hb1⟩⟩
  clear hb1
  rcases isErr_cases hv1 with ⟨h0, rfl⟩ | ⟨hpos, t, a, rfl⟩
  · have HN3 : Hid (c0 = if c2.1 ≠ 0 then c2 else c3) := by
      show _ = _
      rw [HN2.out, if_neg (by omega)]
    clear hv1 h0
    go_wp2_with fail
    refine (HC2.out _ HV1.out.2).mono ?_
    rintro e w2 ⟨⟨v2, rfl, hv2⟩, hb2⟩
    obtain ⟨HV2⟩ : Nonempty (Hid (IsErr w2 E v2 c2.1 c2.2 ∧ Below w.heap.size w w2)) := ⟨⟨hv2, HV1.out.2.trans (hb2.mono HV1.out.2.size)⟩⟩
    clear hb2
    rcases isErr_cases hv2 with ⟨h0, rfl⟩ | ⟨hpos, t, a, rfl⟩
    · have HN4 : Hid (c0 = c3) := by
        show _ = _
        rw [HN3.out, if_neg (by omega)]
      clear hv2 h0
      go_wp2_with fail
      refine (HC3.out _ HV2.out.2).mono ?_
      rintro e w3 ⟨⟨v3, rfl, hv3⟩, hb3⟩
      obtain ⟨HV3⟩ : Nonempty (Hid (IsErr w3 E v3 c3.1 c3.2 ∧ Below w.heap.size w w3)) := ⟨⟨hv3, HV2.out.2.trans (hb3.mono HV2.out.2.size)⟩⟩
      clear hb3 hv3
      go_wp2_with fail
      go_ret
      rw [HN4.out]
      exact ⟨⟨_, rfl, HV3.out.1⟩, HV3.out.2⟩
    · have HN4 : Hid (c0 = c2) := by
        show _ = _
        rw [HN3.out, if_pos (by omega)]
      clear hv2 hpos
      go_wp2_with fail
      go_ret
      rw [HN4.out]
      exact ⟨⟨_, rfl, HV2.out.1⟩, HV2.out.2⟩
  · have HN3 : Hid (c0 = c1) := by
      show _ = _
      rw [HN2.out, if_pos (by omega)]
    clear hv1 hpos
    go_wp2_with fail
    go_ret
    rw [HN3.out]
    exact ⟨⟨_, rfl, HV1.out.1⟩, HV1.out.2⟩

theorem msg_box (w : World) (a b c d : Value) {w' : World} (hb : Below (w.alloc (.cells #[a, b, c, d] 55)).heap.size (w.alloc (.cells #[a, b, c, d] 55)) w') :
    w'.cell? ⟨w.heap.size, 0, none⟩ = some a ∧ w'.cell? ⟨w.heap.size, 1, none⟩ = some b ∧ w'.cell? ⟨w.heap.size, 2, none⟩ = some c ∧ w'.cell? ⟨w.heap.size, 3, none⟩ = some d := by
  refine ⟨?_, ?_, ?_, ?_⟩ <;> exact cell_kept hb (by rw [World.cell?_alloc_at _ _ _ _ rfl]; rfl)

set_option linter.unusedVariables false in
set_option maxRecDepth 100000 in
set_option maxHeartbeats 4000000 in
theorem wCheck_any (v : Value) (M : Ms) (E : Nat → Addr) (m : Int) (w : World) (hE : WireEnv w E m) (h : IsMsg w v M) (hd : M.drops.length ≤ 1000000) (hl : M.adds.length ≤ 1000000) (hm : Mod M.adds) :
    Calls Tryz.prog 61 #[v] w fun r w' => (∃ v', r = .returned v' ∧ IsErr w' E v' (msgC M).1 (msgC M).2) ∧ Below w.heap.size w w' := by
  obtain ⟨p, c, q, d, rfl, i1, i2⟩ := h
  obtain ⟨K, n, D, L⟩ := M
  simp only at *
  have hb0 := below_alloc w (.cells #[.string ⟨K.toArray⟩, .int .i64 n, .slice p D.length c, .slice q L.length d] 55)
  obtain ⟨HC1⟩ : Nonempty (Hid (Calls _ _ _ _ _)) := ⟨checkHead_any K n (.slice p D.length c) (.slice q L.length d) rfl rfl E m _ (hE.below hb0)⟩
  have HC2 : Hid (∀ w', Below w.heap.size w w' → Calls _ _ _ _ _) := fun w' hb => checkNews_any p q D L c d E m w' (hE.below hb) (i1.below hb) (i2.below hb) hd hl hm
  have HES : Hid (∀ w', Below w.heap.size w w' → w'.cell? ⟨4, 0, none⟩ = some (.iface 224 (.pointer (some (E 2))))) := fun w' hb => cell_kept hb hE.shape
  obtain ⟨c0, hc0⟩ : ∃ c, Hid (msgC ⟨K, n, D, L⟩ = c) := ⟨_, show _ = _ from rfl⟩
  obtain ⟨c1, hc1⟩ : ∃ c, Hid (headC K n = c) := ⟨_, show _ = _ from rfl⟩
  obtain ⟨c2, hc2⟩ : ∃ c, Hid (newsC D L = c) := ⟨_, show _ = _ from rfl⟩
  have HN : Hid (c0 = if c1 ≠ 0 then (c1, -1) else if K = kNews then c2 else if 0 < D.length ∨ 0 < L.length then (3, -1) else (0, -1)) := by
    show _ = _
    rw [← hc0.out, ← hc1.out, ← hc2.out]; rfl
  rw [show msgC ⟨K, n, D, L⟩ = c0 from hc0.out]
  rw [show headC K n = c1 from hc1.out] at HC1
  rw [show newsC D L = c2 from hc2.out] at HC2
  obtain ⟨HB0⟩ : Nonempty (Hid (Below w.heap.size w _)) := ⟨hb0⟩
  clear hc0 hc1 hc2 hE i1 i2 hm hb0
  cases c1 with
  | succ c1 =>
    have HF : Hid (c0 = (c1 + 1, -1)) := by
      show _ = _
      rw [HN.out, if_pos (by omega)]
    simp only [ev] at HC1
    obtain ⟨u, hu⟩ : ∃ u, Hid (E c1 = u) := ⟨_, show _ = _ from rfl⟩
    rw [show E c1 = u from hu.out] at HC1
    clear HN
    go_enter Tryz.func61, Tryz.ntmps61
    go_wp2_with fail
    refine HC1.out.mono ?_
    rintro e w1 ⟨rfl, hb1⟩
    obtain ⟨HB1⟩ : Nonempty (Hid (Below w.heap.size w w1)) := ⟨HB0.out.trans (hb1.mono HB0.out.size)⟩
    clear hb1
    go_wp2_with fail
    go_ret
    rw [HF.out]
    exact ⟨⟨_, rfl, .inl ⟨rfl, by rw [← hu.out]; rfl⟩⟩, HB1.out⟩
  | zero =>
    have HN1 : Hid (c0 = if K = kNews then c2 else if 0 < D.length ∨ 0 < L.length then (3, -1) else (0, -1)) := by
      show _ = _
      rw [HN.out, if_neg (by omega)]
    simp only [ev] at HC1
    clear HN
    by_cases hk : K = kNews
    · subst hk
      have HF : Hid (c0 = c2) := by
        show _ = _
        rw [HN1.out, if_pos rfl]
      unfold kNews at *
      clear HN1
      go_enter Tryz.func61, Tryz.ntmps61
      go_wp2_with fail
      refine HC1.out.mono ?_
      rintro e w1 ⟨rfl, hb1⟩
      obtain ⟨x0, x1, x2, x3⟩ := msg_box _ _ _ _ _ hb1
      obtain ⟨HB1⟩ : Nonempty (Hid (Below w.heap.size w w1)) := ⟨HB0.out.trans (hb1.mono HB0.out.size)⟩
      clear hb1
      go_wp2_with fail
      refine (HC2.out _ HB1.out).mono ?_
      rintro e w2 ⟨⟨v2, rfl, hv2⟩, hb2⟩
      obtain ⟨HV2⟩ : Nonempty (Hid (IsErr w2 E v2 c2.1 c2.2 ∧ Below w.heap.size w w2)) := ⟨⟨hv2, HB1.out.trans (hb2.mono HB1.out.size)⟩⟩
      clear hb2 hv2
      go_wp2_with fail
      go_ret
      rw [HF.out]
      exact ⟨⟨_, rfl, HV2.out.1⟩, HV2.out.2⟩
    obtain ⟨a4, b4⟩ := k_ne hk
    have HN2 : Hid (c0 = if 0 < D.length ∨ 0 < L.length then (3, -1) else (0, -1)) := by
      show _ = _
      rw [HN1.out, if_neg hk]
    unfold kNews at *
    clear HN1 hk
    by_cases g1 : 0 < D.length
    · have HF : Hid (c0 = (3, -1)) := by
        show _ = _
        rw [HN2.out, if_pos (.inl g1)]
      have g1' : decide (0 < (D.length : Int)) = true := decide_eq_true (by omega)
      clear HN2
      go_enter Tryz.func61, Tryz.ntmps61
      go_wp2_with fail
      refine HC1.out.mono ?_
      rintro e w1 ⟨rfl, hb1⟩
      obtain ⟨x0, x1, x2, x3⟩ := msg_box _ _ _ _ _ hb1
      obtain ⟨HB1⟩ : Nonempty (Hid (Below w.heap.size w w1)) := ⟨HB0.out.trans (hb1.mono HB0.out.size)⟩
      have es := HES.out _ HB1.out
      clear hb1
      go_wp2_with fail
      go_ret
      rw [HF.out]
      exact ⟨⟨_, rfl, .inl ⟨rfl, rfl⟩⟩, HB1.out⟩
    obtain rfl : D = [] := List.eq_nil_of_length_eq_zero (by omega)
    simp only [List.length_nil] at *
    by_cases g2 : 0 < L.length
    · have HF : Hid (c0 = (3, -1)) := by
        show _ = _
        rw [HN2.out, if_pos (.inr g2)]
      have g2' : decide (0 < (L.length : Int)) = true := decide_eq_true (by omega)
      clear HN2 g1
      go_enter Tryz.func61, Tryz.ntmps61
      go_wp2_with fail
      refine HC1.out.mono ?_
      rintro e w1 ⟨rfl, hb1⟩
      obtain ⟨x0, x1, x2, x3⟩ := msg_box _ _ _ _ _ hb1
      obtain ⟨HB1⟩ : Nonempty (Hid (Below w.heap.size w w1)) := ⟨HB0.out.trans (hb1.mono HB0.out.size)⟩
      have es := HES.out _ HB1.out
      clear hb1
      go_wp2_with fail
      go_ret
      rw [HF.out]
      exact ⟨⟨_, rfl, .inl ⟨rfl, rfl⟩⟩, HB1.out⟩
    · have HF : Hid (c0 = (0, -1)) := by
        show _ = _
        rw [HN2.out, if_neg (by omega)]
      obtain rfl : L = [] := List.eq_nil_of_length_eq_zero (by omega)
      simp only [List.length_nil] at *
      clear HN2 g1 g2
      go_enter Tryz.func61, Tryz.ntmps61
      go_wp2_with fail
      refine HC1.out.mono ?_
      rintro e w1 ⟨rfl, hb1⟩
      obtain ⟨x0, x1, x2, x3⟩ := msg_box _ _ _ _ _ hb1
      obtain ⟨HB1⟩ : Nonempty (Hid (Below w.heap.size w w1)) := ⟨HB0.out.trans (hb1.mono HB0.out.size)⟩
      clear hb1
      go_wp2_with fail
      go_ret
      rw [HF.out]
      exact ⟨⟨_, rfl, .inl ⟨rfl, rfl⟩⟩, HB1.out⟩
end Go.Proofs.YtbfdgflbflajdaaGreatDoor
