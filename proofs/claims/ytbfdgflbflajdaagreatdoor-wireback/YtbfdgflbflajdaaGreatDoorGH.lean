/-
  What package wire leans on; routes and messages in memory; numberWithin, checkHead, checkPrefix: what they return.
  Package wire's checkHead and checkPrefix: what they return.
-/
import Derived.Test.YtbfdgflbflajdaaGreatDoorGE
import Derived.Test.YtbfdgflbflajdaaGreatDoorGF
import Derived.Test.YtbfdgflbflajdaaGreatDoorGG
import Derived.Deep.QuietTactic
namespace Go.Proofs.YtbfdgflbflajdaaGreatDoor
open Go.RowKit

structure WireEnv (w : World) (E : Nat → Addr) (m : Int) : Prop where
  at1 : AttrEnv w E m
  shape : w.cell? ⟨4, 0, none⟩ = some (.iface 224 (.pointer (some (E 2))))
  kind : w.cell? ⟨5, 0, none⟩ = some (.iface 224 (.pointer (some (E 3))))
  exist : w.cell? ⟨7, 0, none⟩ = some (.iface 224 (.pointer (some (E 5))))
theorem WireEnv.below {w w' : World} {E : Nat → Addr} {m : Int} (h : WireEnv w E m) (hb : Below w.heap.size w w') : WireEnv w' E m :=
  ⟨h.at1.below hb, cell_kept hb h.shape, cell_kept hb h.kind, cell_kept hb h.exist⟩
theorem WireEnv.errs {w : World} {E : Nat → Addr} {m : Int} (h : WireEnv w E m) : IpErrs w (E 0) (E 1) (E 2) := ⟨rfl, h.at1.bound, h.shape⟩
theorem WireEnv.ip {w : World} {E : Nat → Addr} {m : Int} (h : WireEnv w E m) : IpEnv w (E 0) (E 1) (E 2) m := ⟨h.errs, h.at1.max, h.at1.tab, h.at1.txt⟩
theorem errV_ev (E : Nat → Addr) (c : Nat) (h : c ≤ 3) : errV (E 0) (E 1) (E 2) c = ev E c := by
  match c, h with
  | 0, _ => rfl
  | 1, _ => rfl
  | 2, _ => rfl
  | 3, _ => rfl
theorem chkC_le (a n : Int) : chkC a n ≤ 3 := by
  unfold chkC
  split
  · split <;> omega
  · omega
theorem chk_ev (a n : Int) (E : Nat → Addr) : chk a n (E 1) (E 2) = ev E (chkC a n) := by
  rw [chk_errV a n (E 0), errV_ev E _ (chkC_le a n)]

/-- a route. -/
structure Ro where
  dst : Int × Int
  att : At
  frm : Int
/-- a route of nothing. -/
def ro0 : Ro := ⟨(0, 0), ⟨[], 0, 0, 0, []⟩, 0⟩
/-- a route's eight cells, at an address. -/
def RouteAt (w : World) (b o : Nat) (r : Ro) : Prop :=
  ∃ p cp q cq, w.cell? ⟨b, o, none⟩ = some (.int .i64 r.dst.1) ∧ w.cell? ⟨b, o + 1, none⟩ = some (.int .i64 r.dst.2)
    ∧ w.cell? ⟨b, o + 2, none⟩ = some (.slice p r.att.path.length cp) ∧ w.cell? ⟨b, o + 3, none⟩ = some (.int .i64 r.att.pref) ∧ w.cell? ⟨b, o + 4, none⟩ = some (.int .i64 r.att.med) ∧ w.cell? ⟨b, o + 5, none⟩ = some (.int .i64 r.att.org) ∧ w.cell? ⟨b, o + 6, none⟩ = some (.slice q r.att.tags.length cq)
    ∧ w.cell? ⟨b, o + 7, none⟩ = some (.int .i64 r.frm) ∧ Ints w p r.att.path ∧ Ints w q r.att.tags
/-- what a slice at p holds: routes. -/
def Routes (w : World) (p : Option Addr) (L : List Ro) : Prop :=
  ∀ i (h : i < L.length), ∃ b o, p = some ⟨b, o, none⟩ ∧ RouteAt w b (o + i * 8) L[i]
theorem RouteAt.below {w w' : World} {b o : Nat} {r : Ro} (h : RouteAt w b o r) (hb : Below w.heap.size w w') : RouteAt w' b o r := by
  obtain ⟨p, cp, q, cq, c0, c1, c2, c3, c4, c5, c6, c7, i1, i2⟩ := h
  exact ⟨p, cp, q, cq, cell_kept hb c0, cell_kept hb c1, cell_kept hb c2, cell_kept hb c3, cell_kept hb c4, cell_kept hb c5, cell_kept hb c6, cell_kept hb c7, i1.below hb, i2.below hb⟩
theorem Routes.below {w w' : World} {p : Option Addr} {L : List Ro} (h : Routes w p L) (hb : Below w.heap.size w w') : Routes w' p L := fun i hi => by
  obtain ⟨b, o, e, c⟩ := h i hi
  exact ⟨b, o, e, c.below hb⟩
theorem routes_nil (w : World) (p : Option Addr) : Routes w p [] := fun i hi => by simp at hi

/-- a message. -/
structure Ms where
  kind : List UInt8
  n : Int
  drops : List (Int × Int)
  adds : List Ro
def IsMsg (w : World) (v : Value) (M : Ms) : Prop :=
  ∃ p c q d, v = .agg #[.string ⟨M.kind.toArray⟩, .int .i64 M.n, .slice p M.drops.length c, .slice q M.adds.length d] ∧ Pairs w p M.drops ∧ Routes w q M.adds
theorem IsMsg.below {w w' : World} {v : Value} {M : Ms} (h : IsMsg w v M) (hb : Below w.heap.size w w') : IsMsg w' v M := by
  obtain ⟨p, c, q, d, e, h1, h2⟩ := h
  exact ⟨p, c, q, d, e, h1.below hb, h2.below hb⟩

def kOpen : List UInt8 := [111, 112, 101, 110]
def kNote : List UInt8 := [110, 111, 116, 101]
def kKeep : List UInt8 := [107, 101, 101, 112]
def kNews : List UInt8 := [110, 101, 119, 115]
def headC (k : List UInt8) (n : Int) : Nat :=
  if k = kOpen then (if inB3 n 1 1000 then 0 else 2)
  else if k = kNote then (if inB3 n 0 1000 then 0 else 2)
  else if k = kKeep ∨ k = kNews then (if n = 0 then 0 else 3) else 4
theorem bytes_eq (a b : List UInt8) : ((ByteArray.mk a.toArray).data.toList == (ByteArray.mk b.toArray).data.toList) = decide (a = b) := by
  by_cases h : a = b
  · subst h; simp
  · rw [decide_eq_false h, beq_eq_false_iff_ne]; simpa using h

set_option linter.unusedVariables false in
set_option maxHeartbeats 1000000 in
theorem numberWithin_any (n a b : Int) (E : Nat → Addr) (m : Int) (w : World) (hE : WireEnv w E m) :
    Calls Tryz.prog 120 #[.int .i64 n, .int .i64 a, .int .i64 b] w fun r w' => r = .returned (ev E (if inB3 n a b then 0 else 2)) ∧ w' = w := by
  have hb := hE.at1.bound
  clear hE
  have HW := within_any n a b w
  cases h : inB3 n a b with
  | true =>
    rw [h] at HW
    go_enter Tryz.func120, Tryz.ntmps120
    go_wp2_with fail
    refine HW.mono ?_
    rintro e w1 ⟨rfl, rfl⟩
    go_wp2_with fail
    go_ret
    exact ⟨rfl, rfl⟩
  | false =>
    rw [h] at HW
    go_enter Tryz.func120, Tryz.ntmps120
    go_wp2_with fail
    refine HW.mono ?_
    rintro e w1 ⟨rfl, rfl⟩
    go_wp2_with fail
    go_ret
    exact ⟨rfl, rfl⟩
end Go.Proofs.YtbfdgflbflajdaaGreatDoor

namespace Go.Proofs.YtbfdgflbflajdaaGreatDoor
open Go.RowKit

theorem k_ne {k l : List UInt8} (h : ¬ k = l) : ((⟨k.toArray⟩ : ByteArray).toList == l) = false ∧ (k == l) = false := by
  constructor
  · rw [ByteArray.toList_eq, beq_eq_false_iff_ne]; simpa using h
  · rw [beq_eq_false_iff_ne]; exact h
set_option linter.unusedVariables false in
set_option maxRecDepth 100000 in
set_option maxHeartbeats 2000000 in
theorem checkHead_any (k : List UInt8) (n : Int) (x y : Value) (hx : x.cells = #[x]) (hy : y.cells = #[y]) (E : Nat → Addr) (m : Int) (w : World) (hE : WireEnv w E m) :
    Calls Tryz.prog 93 #[.agg #[.string ⟨k.toArray⟩, .int .i64 n, x, y]] w fun r w' => r = .returned (ev E (headC k n)) ∧ Below w.heap.size w w' := by
  have hb := below_alloc w (.cells #[.string ⟨k.toArray⟩, .int .i64 n, x, y] 55)
  have HW : Hid (∀ a b, Calls _ _ _ _ _) := fun a b => numberWithin_any n a b E m _ (hE.below hb)
  have hs := (hE.below hb).shape
  have hk := (hE.below hb).kind
  obtain ⟨HB⟩ : Nonempty (Hid (Below _ _ _)) := ⟨hb⟩
  clear hE hb
  unfold headC
  by_cases h1 : k = kOpen
  · subst h1
    rw [if_pos rfl]
    unfold kOpen at *
    obtain ⟨HW1⟩ : Nonempty (Hid (Calls _ _ _ _ _)) := ⟨HW.out 1 1000⟩
    obtain ⟨u, hu⟩ : ∃ u, Hid (ev E (if inB3 n 1 1000 then 0 else 2) = u) := ⟨_, show _ = _ from rfl⟩
    rw [show ev E (if inB3 n 1 1000 then 0 else 2) = u from hu.out] at HW1 ⊢
    go_enter Tryz.func93, Tryz.ntmps93
    go_wp2_with fail
    refine HW1.out.mono ?_
    rintro e w1 ⟨rfl, rfl⟩
    go_wp2_with fail
    go_ret
    exact ⟨rfl, HB.out⟩
  rw [if_neg h1]
  obtain ⟨a1, b1⟩ := k_ne h1
  unfold kOpen at *
  by_cases h2 : k = kNote
  · subst h2
    rw [if_pos rfl]
    unfold kNote at *
    clear a1 b1 h1
    obtain ⟨HW1⟩ : Nonempty (Hid (Calls _ _ _ _ _)) := ⟨HW.out 0 1000⟩
    obtain ⟨u, hu⟩ : ∃ u, Hid (ev E (if inB3 n 0 1000 then 0 else 2) = u) := ⟨_, show _ = _ from rfl⟩
    rw [show ev E (if inB3 n 0 1000 then 0 else 2) = u from hu.out] at HW1 ⊢
    go_enter Tryz.func93, Tryz.ntmps93
    go_wp2_with fail
    refine HW1.out.mono ?_
    rintro e w1 ⟨rfl, rfl⟩
    go_wp2_with fail
    go_ret
    exact ⟨rfl, HB.out⟩
  rw [if_neg h2]
  obtain ⟨a2, b2⟩ := k_ne h2
  unfold kNote at *
  by_cases h3 : k = kKeep
  · subst h3
    rw [if_pos (.inl rfl)]
    unfold kKeep at *
    clear a1 b1 h1 a2 b2 h2
    by_cases hn : n = 0
    · subst hn
      go_enter Tryz.func93, Tryz.ntmps93
      go_wp2_with fail
      go_ret
      exact ⟨rfl, HB.out⟩
    · rw [if_neg hn]
      have hn' : (n == 0) = false := beq_eq_false_iff_ne.2 hn
      clear hn
      go_enter Tryz.func93, Tryz.ntmps93
      go_wp2_with fail
      go_ret
      exact ⟨rfl, HB.out⟩
  obtain ⟨a3, b3⟩ := k_ne h3
  by_cases h4 : k = kNews
  · subst h4
    rw [if_pos (.inr rfl)]
    unfold kKeep kNews at *
    clear a1 b1 h1 a2 b2 h2 a3 b3 h3
    by_cases hn : n = 0
    · subst hn
      go_enter Tryz.func93, Tryz.ntmps93
      go_wp2_with fail
      go_ret
      exact ⟨rfl, HB.out⟩
    · rw [if_neg hn]
      have hn' : (n == 0) = false := beq_eq_false_iff_ne.2 hn
      clear hn
      go_enter Tryz.func93, Tryz.ntmps93
      go_wp2_with fail
      go_ret
      exact ⟨rfl, HB.out⟩
  obtain ⟨a4, b4⟩ := k_ne h4
  rw [if_neg (not_or.2 ⟨h3, h4⟩)]
  unfold kKeep at *
  unfold kNews at *
  clear h1 h2 h3 h4
  go_enter Tryz.func93, Tryz.ntmps93
  go_wp2_with fail
  go_ret
  exact ⟨rfl, HB.out⟩

/-- a function of the program's with one captured variable that tells the prefix of a place. -/
structure Pref (f : Nat) (cv : Value) (n : Nat) (P : Nat → Int × Int) (w : World) : Prop where
  enters : ∀ args w, (callFunc f args).run Tryz.prog w = .ok (.enter f args) w
  says : ∀ k W, k < n → Below w.heap.size w W → Calls Tryz.prog f #[.int .i64 (k : Int), cv] W fun r w' => r = .returned (.agg #[.int .i64 (P k).1, .int .i64 (P k).2]) ∧ Below W.heap.size W w'
theorem Pref.below {f : Nat} {cv : Value} {n : Nat} {P : Nat → Int × Int} {w w' : World} (h : Pref f cv n P w) (hb : Below w.heap.size w w') : Pref f cv n P w' :=
  ⟨h.enters, fun k W hk hb' => h.says k W hk (hb.trans (hb'.mono hb.size))⟩
def preC (P : Nat → Int × Int) (k : Nat) : Nat :=
  if chkC (P k).1 (P k).2 ≠ 0 then chkC (P k).1 (P k).2 else if 0 < k ∧ lessB (P (k - 1)).1 (P (k - 1)).2 (P k).1 (P k).2 = false then 8 else 0

set_option linter.unusedVariables false in
set_option maxRecDepth 100000 in
set_option maxHeartbeats 2000000 in
theorem checkPrefix_any (k : Nat) (f : Nat) (cv : Value) (n : Nat) (P : Nat → Int × Int) (E : Nat → Addr) (m : Int) (w : World) (hE : WireEnv w E m) (hP : Pref f cv n P w) (hk : k < n) (hn : n ≤ 1000000) :
    Calls Tryz.prog 145 #[.int .i64 (k : Int), .func (.func f) #[] #[cv]] w fun r w' => r = .returned (ev E (preC P k)) ∧ Below w.heap.size w w' := by
  have heg := hP.enters
  obtain ⟨HP⟩ : Nonempty (Hid (WireEnv w E m ∧ Pref f cv n P w)) := ⟨⟨hE, hP⟩⟩
  clear hP hE
  obtain ⟨HC⟩ : Nonempty (Hid (Calls _ _ _ _ _)) := ⟨HP.out.2.says k w hk (Below.refl _ _)⟩
  obtain ⟨a, ha⟩ : ∃ a, Hid (P k = a) := ⟨_, show _ = _ from rfl⟩
  rw [show P k = a from ha.out] at HC
  by_cases hc : chkC a.1 a.2 = 0
  · cases k with
    | zero =>
      have HR : Hid (preC P 0 = 0) := by
        show _ = _
        unfold preC; rw [ha.out, if_neg (by simp [hc]), if_neg (by omega)]
      rw [HR.out]
      have HK : Hid (∀ w', Below w.heap.size w w' → Calls _ _ _ _ _) := fun w' hb => check_any a.1 a.2 (E 0) (E 1) (E 2) w' (HP.out.1.below hb).errs
      rw [chk_ev, hc] at HK
      clear hc
      go_enter Tryz.func145, Tryz.ntmps145
      go_wp2_with fail
      refine HC.out.mono ?_
      rintro e w1 ⟨rfl, hb1⟩
      obtain ⟨HK1⟩ : Nonempty (Hid (Calls _ _ _ _ _)) := ⟨HK.out w1 hb1⟩
      obtain ⟨HB1⟩ : Nonempty (Hid (Below _ _ _)) := ⟨hb1⟩
      clear hb1
      go_wp2_with fail
      refine HK1.out.mono ?_
      rintro e w2 ⟨rfl, hb2⟩
      simp only [ev]
      obtain ⟨HB2⟩ : Nonempty (Hid (Below w.heap.size w w2)) := ⟨HB1.out.trans (hb2.mono HB1.out.size)⟩
      clear hb2
      go_wp2_with fail
      go_ret
      exact ⟨rfl, HB2.out⟩
    | succ j =>
      have HK : Hid (∀ w', Below w.heap.size w w' → Calls _ _ _ _ _) := fun w' hb => check_any a.1 a.2 (E 0) (E 1) (E 2) w' (HP.out.1.below hb).errs
      rw [chk_ev, hc] at HK
      obtain ⟨b, hb⟩ : ∃ a, Hid (P j = a) := ⟨_, show _ = _ from rfl⟩
      have HC1 : Hid (∀ w', Below w.heap.size w w' → Calls _ _ _ _ _) := fun w' hb => HP.out.2.says j w' (by omega) hb
      have HC2 : Hid (∀ w', Below w.heap.size w w' → Calls _ _ _ _ _) := fun w' hb => HP.out.2.says (j + 1) w' hk hb
      rw [show P j = b from hb.out] at HC1
      rw [show P (j + 1) = a from ha.out] at HC2
      have HL : Hid (∀ w', Below w.heap.size w w' → Calls _ _ _ _ _) := fun w' hb => less_any b.1 b.2 a.1 a.2 (E 0) (E 1) (E 2) w' (HP.out.1.below hb).errs
      have HO : Hid (∀ w', Below w.heap.size w w' → w'.cell? ⟨3, 0, none⟩ = some (.iface 224 (.pointer (some (E 7))))) := fun w' hb => cell_kept hb HP.out.1.at1.order
      have hj1 : ((j + 1 : Nat) : Int) - 1 = (j : Int) := by omega
      have hj2 : IntKind.i64.wrap (j : Int) = (j : Int) := wrapN _ (by omega)
      have hj4 : decide (0 < ((j + 1 : Nat) : Int)) = true := decide_eq_true (by omega)
      obtain ⟨x, hx⟩ : ∃ x, Hid (lessB b.1 b.2 a.1 a.2 = x) := ⟨_, show _ = _ from rfl⟩
      rw [show lessB b.1 b.2 a.1 a.2 = x from hx.out] at HL
      have HR : Hid (preC P (j + 1) = if x then 0 else 8) := by
        show _ = _
        unfold preC; rw [ha.out, if_neg (by simp [hc]), Nat.add_sub_cancel, hb.out, hx.out]
        cases x <;> simp
      rw [HR.out]
      clear hc hx ha hb
      have key : ∀ w2, Hid (Below w.heap.size w w2) → True := fun _ _ => trivial
      cases x with
      | true =>
        go_enter Tryz.func145, Tryz.ntmps145
        go_wp2_with fail
        refine HC.out.mono ?_
        rintro e w1 ⟨rfl, hb1⟩
        obtain ⟨HK1⟩ : Nonempty (Hid (Calls _ _ _ _ _)) := ⟨HK.out w1 hb1⟩
        obtain ⟨HB1⟩ : Nonempty (Hid (Below _ _ _)) := ⟨hb1⟩
        clear hb1
        go_wp2_with fail
        refine HK1.out.mono ?_
        rintro e w2 ⟨rfl, hb2⟩
        simp only [ev]
        obtain ⟨HB2⟩ : Nonempty (Hid (Below w.heap.size w w2)) := ⟨HB1.out.trans (hb2.mono HB1.out.size)⟩
        clear hb2
        go_wp2_with fail
        refine (HC1.out _ HB2.out).mono ?_
        rintro e w3 ⟨rfl, hb3⟩
        obtain ⟨HB3⟩ : Nonempty (Hid (Below w.heap.size w w3)) := ⟨HB2.out.trans (hb3.mono HB2.out.size)⟩
        clear hb3
        go_wp2_with fail
        refine (HC2.out _ HB3.out).mono ?_
        rintro e w4 ⟨rfl, hb4⟩
        obtain ⟨HB4⟩ : Nonempty (Hid (Below w.heap.size w w4)) := ⟨HB3.out.trans (hb4.mono HB3.out.size)⟩
        clear hb4
        go_wp2_with fail
        refine (HL.out _ HB4.out).mono ?_
        rintro e w5 ⟨rfl, hb5⟩
        obtain ⟨HB5⟩ : Nonempty (Hid (Below w.heap.size w w5)) := ⟨HB4.out.trans (hb5.mono HB4.out.size)⟩
        clear hb5
        go_wp2_with fail
        go_ret
        exact ⟨rfl, HB5.out⟩
      | false =>
        go_enter Tryz.func145, Tryz.ntmps145
        go_wp2_with fail
        refine HC.out.mono ?_
        rintro e w1 ⟨rfl, hb1⟩
        obtain ⟨HK1⟩ : Nonempty (Hid (Calls _ _ _ _ _)) := ⟨HK.out w1 hb1⟩
        obtain ⟨HB1⟩ : Nonempty (Hid (Below _ _ _)) := ⟨hb1⟩
        clear hb1
        go_wp2_with fail
        refine HK1.out.mono ?_
        rintro e w2 ⟨rfl, hb2⟩
        simp only [ev]
        obtain ⟨HB2⟩ : Nonempty (Hid (Below w.heap.size w w2)) := ⟨HB1.out.trans (hb2.mono HB1.out.size)⟩
        clear hb2
        go_wp2_with fail
        refine (HC1.out _ HB2.out).mono ?_
        rintro e w3 ⟨rfl, hb3⟩
        obtain ⟨HB3⟩ : Nonempty (Hid (Below w.heap.size w w3)) := ⟨HB2.out.trans (hb3.mono HB2.out.size)⟩
        clear hb3
        go_wp2_with fail
        refine (HC2.out _ HB3.out).mono ?_
        rintro e w4 ⟨rfl, hb4⟩
        obtain ⟨HB4⟩ : Nonempty (Hid (Below w.heap.size w w4)) := ⟨HB3.out.trans (hb4.mono HB3.out.size)⟩
        clear hb4
        go_wp2_with fail
        refine (HL.out _ HB4.out).mono ?_
        rintro e w5 ⟨rfl, hb5⟩
        obtain ⟨HB5⟩ : Nonempty (Hid (Below w.heap.size w w5)) := ⟨HB4.out.trans (hb5.mono HB4.out.size)⟩
        have ho := HO.out _ HB5.out
        clear hb5
        go_wp2_with fail
        go_ret
        exact ⟨rfl, HB5.out⟩
  · have HR : Hid (preC P k = chkC a.1 a.2) := by
      show _ = _
      unfold preC; rw [ha.out, if_pos hc]
    rw [HR.out]
    have HK : Hid (∀ w', Below w.heap.size w w' → Calls _ _ _ _ _) := fun w' hb => check_any a.1 a.2 (E 0) (E 1) (E 2) w' (HP.out.1.below hb).errs
    rw [chk_ev] at HK
    obtain ⟨c, hcc⟩ : ∃ c, Hid (chkC a.1 a.2 = c + 1) := ⟨chkC a.1 a.2 - 1, show _ = _ by omega⟩
    rw [show chkC a.1 a.2 = c + 1 from hcc.out] at HK ⊢
    simp only [ev] at HK ⊢
    obtain ⟨u, hu⟩ : ∃ u, Hid (E c = u) := ⟨_, show _ = _ from rfl⟩
    rw [show E c = u from hu.out] at HK ⊢
    clear hc
    go_enter Tryz.func145, Tryz.ntmps145
    go_wp2_with fail
    refine HC.out.mono ?_
    rintro e w1 ⟨rfl, hb1⟩
    obtain ⟨HK1⟩ : Nonempty (Hid (Calls _ _ _ _ _)) := ⟨HK.out w1 hb1⟩
    obtain ⟨HB1⟩ : Nonempty (Hid (Below _ _ _)) := ⟨hb1⟩
    clear hb1
    go_wp2_with fail
    refine HK1.out.mono ?_
    rintro e w2 ⟨rfl, hb2⟩
    obtain ⟨HB2⟩ : Nonempty (Hid (Below w.heap.size w w2)) := ⟨HB1.out.trans (hb2.mono HB1.out.size)⟩
    clear hb2
    go_wp2_with fail
    go_ret
    exact ⟨rfl, HB2.out⟩
end Go.Proofs.YtbfdgflbflajdaaGreatDoor
