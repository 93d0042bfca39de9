/-
  The document's LeadOf: a path led by a system.
  slices.Equal, slices.Contains and slices.Clone of whole numbers, in the words of these proofs; package attr's Same, Through and Own.
  Package attr's listText: what it returns.
-/
import Derived.Test.YtmoogmdojmapdaaGreatDoorGC
import Derived.Test.YtmoogmdojmapdaaGreatDoorGE
import Derived.Laws.MakeOwn
namespace Go.Proofs.YtmoogmdojmapdaaGreatDoor
open Go.RowKit

/-- the error's number of a lead (0: none). -/
def leadC (A : At) (x n : Int) : Int :=
  if 0 < (faultA A).1 then (faultA A).1
  else if x < 1 ∨ 1000 < x ∨ n < 0 ∨ 12 < n then 2
  else if 12 < (A.path.length : Int) + n then 7
  else 0
def leadA (A : At) (x n : Int) : At := { A with path := List.replicate n.toNat x ++ A.path }
def noneA : At := ⟨[], 0, 0, 0, []⟩
theorem attrK_none (w : World) : AttrK w (.agg #[.slice none 0 0, .int .i64 0, .int .i64 0, .int .i64 0, .slice none 0 0]) noneA :=
  ⟨none, 0, none, 0, rfl, ints_nil _ _, ints_nil _ _, .inl ⟨rfl, rfl, rfl⟩, .inl ⟨rfl, rfl, rfl⟩⟩

end Go.Proofs.YtmoogmdojmapdaaGreatDoor

namespace Go.Proofs.YtmoogmdojmapdaaGreatDoor
open Go.RowKit
open scoped Classical

theorem ints_at {w : World} {p : Option Addr} {L : List Int} (h : Ints w p L) (h0 : 0 < L.length) : ∃ b o, p = some ⟨b, o, none⟩ ∧ ∀ j, j < L.length → w.cell? ⟨b, o + j, none⟩ = some (.int .i64 (L.getD j 0)) := by
  obtain ⟨b, o, rfl, -⟩ := h 0 h0
  refine ⟨b, o, rfl, fun j hj => ?_⟩
  obtain ⟨b', o', e, c⟩ := h j hj
  simp only [Option.some.injEq, Addr.mk.injEq, and_true] at e
  obtain ⟨rfl, rfl⟩ := e
  rw [c]; simp [List.getD, hj]
theorem equal_any (p q : Option Addr) (L M : List Int) (c d : Nat) (w : World) (h : Ints w p L) (h' : Ints w q M) (hl : L.length ≤ 1000000) (hm : M.length ≤ 1000000) :
    Calls Tryz.prog 39 #[.slice p L.length c, .slice q M.length d] w fun r w' => r = .returned (.bool (decide (L = M))) ∧ Below w.heap.size w w' := by
  by_cases hn : L.length = M.length
  · by_cases h0 : L.length = 0
    · have e1 : L = [] := List.eq_nil_of_length_eq_zero h0
      have e2 : M = [] := List.eq_nil_of_length_eq_zero (by omega)
      subst e1 e2
      exact (Tryz.slices_Equal_int_empty p q c 0 d w (by omega)).mono fun e w' ⟨he, hw⟩ => ⟨by rw [he]; simp, by rw [hw]; exact Below.refl _ _⟩
    · obtain ⟨b, o, rfl, hc⟩ := ints_at h (by omega)
      obtain ⟨b', o', rfl, hc'⟩ := ints_at h' (by omega)
      refine (Tryz.slices_Equal_int b o L.length c b' o' M.length d L M w (Nat.le_refl _) (Nat.le_refl _) (by omega) (by omega) hc hc').mono fun e w' ⟨he, q, hw⟩ => ⟨?_, by rw [hw]; exact below_drewN (Below.refl _ _) _⟩
      rw [he, List.take_length, List.take_length]
      congr 2
      by_cases e : L = M <;> simp [e]
  · refine (Tryz.slices_Equal_int_lens p q L.length c M.length d w hn).mono fun e w' ⟨he, hw⟩ => ⟨?_, by rw [hw]; exact Below.refl _ _⟩
    rw [he, decide_eq_false (fun e => hn (by rw [e]))]
set_option linter.unusedVariables false in
set_option maxRecDepth 100000 in
set_option maxHeartbeats 4000000 in
theorem same_any (v v' : Value) (A A' : At) (w : World) (h : IsAttr w v A) (h' : IsAttr w v' A') (h1 : A.path.length ≤ 1000000) (h2 : A.tags.length ≤ 1000000) (h3 : A'.path.length ≤ 1000000) (h4 : A'.tags.length ≤ 1000000) :
    Calls Tryz.prog 14 #[v, v'] w fun r w' => r = .returned (.bool (decide (A = A'))) ∧ Below w.heap.size w w' := by
  obtain ⟨p, cp, q, cq, rfl, i1, i2⟩ := h
  obtain ⟨p', cp', q', cq', rfl, i3, i4⟩ := h'
  obtain ⟨P, f, n, o, T⟩ := A
  obtain ⟨P', f', n', o', T'⟩ := A'
  simp only at *
  have HC : Hid (∀ w', Below w.heap.size w w' → Calls _ _ _ _ _) := fun w' hb => equal_any p p' P P' cp cp' w' (i1.below hb) (i3.below hb) h1 h3
  have HT : Hid (∀ w', Below w.heap.size w w' → Calls _ _ _ _ _) := fun w' hb => equal_any q q' T T' cq cq' w' (i2.below hb) (i4.below hb) h2 h4
  obtain ⟨cb, hcb⟩ : ∃ b, Hid (decide ((⟨P, f, n, o, T⟩ : At) = ⟨P', f', n', o', T'⟩) = b) := ⟨_, show _ = _ from rfl⟩
  rw [show decide ((⟨P, f, n, o, T⟩ : At) = ⟨P', f', n', o', T'⟩) = cb from hcb.out]
  obtain ⟨HQ⟩ : Nonempty (Hid (cb = (decide (f = f') && decide (n = n') && decide (o = o') && decide (P = P') && decide (T = T')))) := ⟨by
    rw [← hcb.out]
    simp only [At.mk.injEq, ← Bool.decide_and, decide_eq_decide]
    constructor
    · rintro ⟨a, b, c, d, e⟩; exact ⟨⟨⟨⟨b, c⟩, d⟩, a⟩, e⟩
    · rintro ⟨⟨⟨⟨b, c⟩, d⟩, a⟩, e⟩; exact ⟨a, b, c, d, e⟩⟩
  clear i1 i2 i3 i4 h1 h2 h3 h4 hcb
  by_cases e1 : f = f'
  · have e1' : (f == f') = true := by simp [e1]
    by_cases e2 : n = n'
    · have e2' : (n == n') = true := by simp [e2]
      by_cases e3 : o = o'
      · have e3' : (o == o') = true := by simp [e3]
        by_cases e4 : P = P'
        · obtain ⟨HP⟩ : Nonempty (Hid (decide (P = P') = true)) := ⟨decide_eq_true e4⟩
          rw [show decide (P = P') = true from HP.out] at HC
          obtain rfl : decide (T = T') = cb := by rw [HQ.out]; simp [e1, e2, e3, e4]
          obtain ⟨tb, htb⟩ : ∃ b, Hid (decide (T = T') = b) := ⟨_, show _ = _ from rfl⟩
          rw [show decide (T = T') = tb from htb.out] at HT ⊢
          clear e1 e2 e3 e4 HQ
          go_enter Tryz.func14, Tryz.ntmps14
          go_wp2_with fail
          refine (HC.out _ (below_two _ _ _)).mono ?_
          rintro e w1 ⟨rfl, hb1⟩
          have d1 := cell_kept hb1 (att_at _ _ _ _ _ _ _ _)
          have d2 := cell_kept hb1 (att_at2 _ _ _ _ _ _ _ _)
          replace hb1 := (below_two _ _ _).trans (hb1.mono (below_two _ _ _).size)
          go_wp2_with fail
          refine (HT.out _ hb1).mono ?_
          rintro e w2 ⟨rfl, hb2⟩
          go_wp2_with fail
          go_ret
          exact ⟨rfl, hb1.trans (hb2.mono hb1.size)⟩
        · obtain ⟨HP⟩ : Nonempty (Hid (decide (P = P') = false)) := ⟨decide_eq_false e4⟩
          rw [show decide (P = P') = false from HP.out] at HC
          obtain rfl : false = cb := by rw [HQ.out]; simp [e4]
          clear e1 e2 e3 e4 HQ
          go_enter Tryz.func14, Tryz.ntmps14
          go_wp2_with fail
          refine (HC.out _ (below_two _ _ _)).mono ?_
          rintro e w1 ⟨rfl, hb1⟩
          replace hb1 := (below_two _ _ _).trans (hb1.mono (below_two _ _ _).size)
          go_wp2_with fail
          go_ret
          exact ⟨rfl, hb1⟩
      · have e3' : (o == o') = false := by simp [e3]
        obtain rfl : false = cb := by rw [HQ.out]; simp [e3]
        clear e1 e2 e3 HQ HC HT
        go_enter Tryz.func14, Tryz.ntmps14
        go_wp2_with fail
        go_ret
        exact ⟨rfl, below_two _ _ _⟩
    · have e2' : (n == n') = false := by simp [e2]
      obtain rfl : false = cb := by rw [HQ.out]; simp [e2]
      clear e1 e2 HQ HC HT
      go_enter Tryz.func14, Tryz.ntmps14
      go_wp2_with fail
      go_ret
      exact ⟨rfl, below_two _ _ _⟩
  · have e1' : (f == f') = false := by simp [e1]
    obtain rfl : false = cb := by rw [HQ.out]; simp [e1]
    clear e1 HQ HC HT
    go_enter Tryz.func14, Tryz.ntmps14
    go_wp2_with fail
    go_ret
    exact ⟨rfl, below_two _ _ _⟩
end Go.Proofs.YtmoogmdojmapdaaGreatDoor

namespace Go.Proofs.YtmoogmdojmapdaaGreatDoor
open Go.RowKit

theorem aBelow_grow (w : World) (k : Nat) (os : Array Obj) : Below w.heap.size w (Sort.grow (w.drewN k) os) := by
  refine ⟨rfl, rfl, rfl, ?_, fun i hi => ?_⟩
  · show w.heap.size ≤ (w.heap ++ os).size
    simp
  · show (w.heap ++ os)[i]? = _
    rw [Array.getElem?_append_left hi]
theorem aItoa_any (n : Int) (l : List UInt8) (hl : Hid (Lib.itoa n = l)) (E : Nat → Addr) (m : Int) (w : World) (h : AttrEnv w E m) (h0 : -9223372036854775807 ≤ n) (h1 : n ≤ 9223372036854775807) :
    Calls Tryz.prog 37 #[.int .i64 n] w fun e w' => e = .returned (.string ⟨l.toArray⟩) ∧ Below w.heap.size w w' := by
  rw [← hl.out]
  refine (Tryz.strconv_Itoa n (by omega) (by omega) w h.tab).mono ?_
  rintro e w' ⟨rfl, k, os, rfl⟩
  exact ⟨rfl, aBelow_grow w k os⟩
theorem join_joinN (c : UInt8) (L : List Int) (h : 0 < L.length) : Lib.join (L.map Lib.itoa) [c] = joinN c L := by
  cases L with
  | nil => simp at h
  | cons x r =>
    rw [List.map_cons, Lib.join_cons]
    simp only [joinN]
    congr 1
    rw [List.flatMap_def, Lib.joinTail, List.map_map]
    rfl
/-- a row of texts that is being written: the first k are done. -/
def Row (w wr : World) (B n k : Nat) (L : List Int) : Prop :=
  ∃ cur : Array Value, wr.heap[B]? = some (.cells cur 9 (0, 0)) ∧ cur.size = n ∧ (∀ j (h : j < L.length), j < k → cur[j]? = some (strV (Lib.itoa L[j]))) ∧ Below B w wr
theorem Row.on {w wr w' : World} {B n k : Nat} {L : List Int} (h : Row w wr B n k L) (hb : Below wr.heap.size wr w') : Row w w' B n k L := by
  obtain ⟨cur, a, b, c, d⟩ := h
  have l1 := (Array.getElem?_eq_some_iff.1 a).1
  exact ⟨cur, by rw [hb.block B l1]; exact a, b, c, d.trans (hb.mono (Nat.le_of_lt l1))⟩
theorem Row.soft {w wr : World} {B n k : Nat} {L : List Int} (h : Row w wr B n k L) (j : Nat) (hj : j < n) : wr.frozen? ⟨B, j, none⟩ = false ∧ ∃ u, wr.cell? ⟨B, j, none⟩ = some u := by
  obtain ⟨cur, a, b, c, d⟩ := h
  constructor
  · simp [World.frozen?, a]
  · exact ⟨cur[j], by simp [World.cell?, a, b, hj]⟩
theorem Row.set {w wr : World} {B n k : Nat} {L : List Int} (h : Row w wr B n k L) (hk : k < n) (hn : n = L.length) (u : Value) (hu : ∀ h : k < L.length, u = strV (Lib.itoa L[k])) : Row w (wr.setCell ⟨B, k, none⟩ u) B n (k + 1) L := by
  obtain ⟨cur, a, b, c, d⟩ := h
  refine ⟨cur.setIfInBounds k u, heap_setCell_same wr B k cur _ u a, by simp [b], fun j hj hjk => ?_, d.setCell (Nat.le_refl _) _⟩
  by_cases e : j = k
  · subst e
    rw [Array.getElem?_setIfInBounds_self_of_lt (by omega), hu hj]
  · rw [Array.getElem?_setIfInBounds_ne (by omega)]
    exact c j hj (by omega)

set_option linter.unusedVariables false in
set_option maxRecDepth 100000 in
set_option maxHeartbeats 4000000 in
theorem listText_any (p : Option Addr) (L : List Int) (c : UInt8) (cap : Nat) (E : Nat → Addr) (m : Int) (w : World) (hE : AttrEnv w E m) (h : Ints w p L) (hl : L.length ≤ 1000) (hr : ∀ x ∈ L, -9223372036854775807 ≤ x ∧ x ≤ 9223372036854775807) :
    Calls Tryz.prog 38 #[.slice p L.length cap, .string ⟨#[c]⟩] w fun r w' => r = .returned (.string ⟨(joinN c L).toArray⟩) ∧ Below w.heap.size w w' := by
  by_cases h0 : L.length = 0
  · have e1 : L = [] := List.eq_nil_of_length_eq_zero h0
    subst e1
    clear hE h hr
    go_enter Tryz.func38, Tryz.ntmps38
    go_wp2_with fail
    go_ret
    exact ⟨rfl, Below.refl _ _⟩
  · have q0 : ((L.length : Int) == 0) = false := by rw [beq_eq_false_iff_ne]; omega
    obtain ⟨HE⟩ : Nonempty (Hid (AttrEnv w E m ∧ Ints w p L ∧ (∀ x ∈ L, -9223372036854775807 ≤ x ∧ x ≤ 9223372036854775807))) := ⟨⟨hE, h, hr⟩⟩
    obtain ⟨B, hB⟩ : ∃ b, Hid (w.heap.size = b) := ⟨_, show _ = _ from rfl⟩
    rw [show w.heap.size = B from hB.out]
    clear hE h hr
    obtain ⟨i0, hi, hz0, hz1, hz2⟩ := info_parts infoS
    have hmk := run_make (P := Tryz.prog) w 59 9 i0 (.string ⟨#[]⟩) Tryz.underlying59 hi hz0 .i64 .i64 (L.length : Int) (L.length : Int) (by omega) (Int.le_refl _) (by rw [hz2]; omega) (by omega)
    obtain ⟨MC, hMC⟩ : ∃ a : Array Value, Hid (madeCells (Value.string ⟨#[]⟩).cells (L.length * i0.size) = a) := ⟨_, show _ = _ from rfl⟩
    simp only [Int.toNat_natCast] at hmk
    rw [show madeCells (Value.string ⟨#[]⟩).cells (L.length * i0.size) = MC from hMC.out] at hmk
    have hsz : MC.size = L.length := by rw [← hMC.out, size_madeCells, hz1, Nat.mul_one]
    obtain ⟨W1, hW1⟩ : ∃ W1, Hid (w.alloc (.cells MC 9) = W1) := ⟨_, show _ = _ from rfl⟩
    rw [show w.alloc (.cells MC 9) = W1 from hW1.out, show w.heap.size = B from hB.out] at hmk
    obtain ⟨HR⟩ : Nonempty (Hid (Row w W1 B L.length 0 L)) := ⟨by
      rw [← hW1.out, ← hB.out]
      exact ⟨MC, Go.heap_alloc_new w _, hsz, fun j _ h => by omega, below_alloc _ _⟩⟩
    obtain ⟨l9, hl9⟩ : ∃ l, Hid (joinN c L = l) := ⟨_, show _ = _ from rfl⟩
    rw [show joinN c L = l9 from hl9.out]
    clear hsz hi hz0 hz1 hz2
    go_enter Tryz.func38, Tryz.ntmps38
    go_wp2_with fail
    clear hmk
    go_loopw [16] (fun i wr => ∃ (k : Nat), i = .int .i64 k ∧ k ≤ L.length ∧ Hid (Row w wr B L.length k L)) (fun i _ => L.length - (intOf i).toNat)
    case atStart => exact ⟨0, rfl, Nat.zero_le _, HR⟩
    case round =>
      obtain ⟨k, rfl, hk, HK⟩ := hrel
      have hbw : Below w.heap.size w wr := by obtain ⟨_, _, _, _, d⟩ := HK.out; rw [show w.heap.size = B from hB.out]; exact d
      by_cases hlt : k < L.length
      · have q3 : (k : Int) < L.length := by omega
        obtain ⟨b, o, rfl, x0⟩ := HE.out.2.1 k hlt
        have d0 := cell_kept hbw x0
        obtain ⟨x, hx⟩ : ∃ x, Hid (L[k] = x) := ⟨_, show _ = _ from rfl⟩
        rw [show L[k] = x from hx.out] at d0
        obtain ⟨l, hlx⟩ : ∃ l, Hid (Lib.itoa x = l) := ⟨_, show _ = _ from rfl⟩
        have hrx := HE.out.2.2 L[k] (List.getElem_mem hlt)
        rw [show L[k] = x from hx.out] at hrx
        obtain ⟨HC⟩ : Nonempty (Hid (Calls _ _ _ _ _)) := ⟨aItoa_any x l hlx E m wr (HE.out.1.below hbw) hrx.1 hrx.2⟩
        clear hrx x0 hbw
        go_wp2_with fail
        refine HC.out.mono ?_
        rintro e w1 ⟨rfl, hb1⟩
        obtain ⟨HK1⟩ : Nonempty (Hid (Row w w1 B L.length k L)) := ⟨HK.out.on hb1⟩
        obtain ⟨s0, u, s1⟩ := HK1.out.soft k hlt
        obtain ⟨HN⟩ : Nonempty (Hid (Row w (w1.setCell ⟨B, k, none⟩ (.string ⟨l.toArray⟩)) B L.length (k + 1) L)) := ⟨HK1.out.set hlt rfl _ (fun _ => by unfold strV; rw [hx.out, hlx.out])⟩
        clear hb1 d0 HC
        go_wp2_with fail
        go_roundw
        case rel => exact ⟨k + 1, by go_num, by omega, HN⟩
        case measure => simp [intOf]; omega
      · obtain rfl : k = L.length := by omega
        obtain ⟨HJ⟩ : Nonempty (Hid (Calls Tryz.prog 22 #[.slice (some ⟨B, 0, none⟩) L.length L.length, .string ⟨#[c]⟩] wr fun e w' => e = .returned (.string ⟨(joinN c L).toArray⟩) ∧ Below wr.heap.size wr w')) := ⟨by
          obtain ⟨cur, a, b, cc, d⟩ := HK.out
          have hj := join_joinN c L (by omega)
          have hlen := joinN_len c L HE.out.2.2
          have := Tryz.strings_Join B 0 L.length (L.map (fun x => (⟨(Lib.itoa x).toArray⟩ : ByteArray))) ⟨#[c]⟩ wr (fun j x hjx => by
            have hjl : j < L.length := by
              have := (List.getElem?_eq_some_iff.1 hjx).1
              simpa using this
            rw [Nat.zero_add]
            have e := cc j hjl hjl
            simp [hjl] at hjx
            rw [← hjx]
            simp [World.cell?, a, e, strV]) (Array.getElem?_eq_some_iff.1 a).1 (by simp; omega) (by simp) (by
            rw [List.map_map, show (List.map ((fun x => x.data.toList) ∘ fun x => (⟨(Lib.itoa x).toArray⟩ : ByteArray)) L) = L.map Lib.itoa from by simp [Function.comp_def]]
            show (Lib.join (L.map Lib.itoa) [c]).length ≤ _
            rw [hj]; omega)
          rw [List.map_map, List.length_map, show (List.map ((fun x => x.data.toList) ∘ fun x => (⟨(Lib.itoa x).toArray⟩ : ByteArray)) L) = L.map Lib.itoa from by simp [Function.comp_def]] at this
          rw [← hj]
          exact this⟩
        rw [show joinN c L = l9 from hl9.out] at HJ
        obtain ⟨HBW⟩ : Nonempty (Hid (Below B w wr ∧ B ≤ wr.heap.size)) := ⟨by obtain ⟨_, _, _, _, d⟩ := HK.out; exact ⟨d, by rw [← show w.heap.size = B from hB.out]; exact hbw.size⟩⟩
        clear hbw
        go_wp2_with fail
        refine HJ.out.mono ?_
        rintro e w1 ⟨rfl, hb1⟩
        obtain ⟨HB1⟩ : Nonempty (Hid (Below B w w1)) := ⟨HBW.out.1.trans (hb1.mono HBW.out.2)⟩
        clear hb1
        go_wp2_with fail
        go_ret
        exact ⟨rfl, HB1.out⟩
end Go.Proofs.YtmoogmdojmapdaaGreatDoor
