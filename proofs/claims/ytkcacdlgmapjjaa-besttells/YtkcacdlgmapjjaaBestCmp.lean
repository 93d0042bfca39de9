/-
  The library's Compare at two lists of whole numbers; package best's first and order: what they return.
-/
import Derived.Test.YtkcacdlgmapjjaaRouteRow
import Derived.Test.YtkcacdlgmapjjaaBestMath
import Derived.Test.YtkcacdlgmapjjaaShelf
import Derived.Deep.LoopGhost
import Derived.Sort.Grow
namespace Go.Proofs.Ytkcacdlgmapjjaa
open Go.RowKit

/-- the first that is not 0, or 0. -/
def firstI : List Int → Int
  | [] => 0
  | x :: r => if x = 0 then firstI r else x
theorem firstI_append (L M : List Int) (h : ∀ x ∈ L, x = 0) : firstI (L ++ M) = firstI M := by
  induction L with
  | nil => rfl
  | cons x L ih =>
    have := ih fun y hy => h y (by simp [hy])
    rw [List.cons_append, ← this, firstI, if_pos (h x (by simp))]
theorem firstI_at (L : List Int) (k : Nat) (hk : k < L.length) (h : ∀ x ∈ L.take k, x = 0) : firstI L = if L[k] = 0 then firstI (L.drop (k + 1)) else L[k] := by
  conv => lhs; rw [← List.take_append_drop k L, List.drop_eq_getElem_cons hk]
  rw [firstI_append _ _ h]
  rfl
theorem firstI_zero (L : List Int) (h : ∀ x ∈ L, x = 0) : firstI L = 0 := by
  have := firstI_append L [] h
  rw [List.append_nil] at this
  rw [this]
  rfl
theorem compare_zero (x y : Int) : Lib.compareInt x y = 0 ↔ x = y := by
  unfold Lib.compareInt
  by_cases h1 : x < y
  · simp [h1]; omega
  · by_cases h2 : y < x
    · simp [h1, h2]; omega
    · simp [h1, h2]; omega
theorem ordI_one (x y : Int) : ordI [x] [y] = Lib.compareInt x y := by
  unfold ordI Lib.compareInt
  simp only [ltI, Bool.and_false, Bool.or_false, decide_eq_true_eq]
theorem ordI_cons (x y : Int) (c d : List Int) : ordI (x :: c) (y :: d) = if Lib.compareInt x y = 0 then ordI c d else Lib.compareInt x y := by
  have := ordI_append (a := [x]) (b := [y]) c d rfl
  rw [ordI_one] at this
  exact this
/-- a route's list. -/
def keyR (r : Ro) : List Int := (-r.att.pref) :: (r.att.path.length : Int) :: r.att.org :: r.att.med :: r.frm :: (r.att.path ++ (r.dst.1 :: r.dst.2 :: r.att.tags))
theorem compare_neg (x y : Int) : Lib.compareInt (-x) (-y) = Lib.compareInt y x := by
  unfold Lib.compareInt
  by_cases h1 : y < x
  · rw [if_pos (by omega), if_pos h1]
  · rw [if_neg (by omega), if_neg h1]
    by_cases h2 : x < y
    · rw [if_pos (by omega), if_pos h2]
    · rw [if_neg (by omega), if_neg h2]
theorem ordI_refl_len {a b : List Int} (h : a.length = b.length) (c d : List Int) : ordI (a ++ c) (b ++ d) = if ordI a b = 0 then ordI c d else ordI a b := ordI_append c d h
theorem keyR_ord (a b : Ro) : ordI (keyR a) (keyR b) = firstI [Lib.compareInt b.att.pref a.att.pref, Lib.compareInt a.att.path.length b.att.path.length, Lib.compareInt a.att.org b.att.org, Lib.compareInt a.att.med b.att.med, Lib.compareInt a.frm b.frm, ordI a.att.path b.att.path, Lib.compareInt a.dst.1 b.dst.1, Lib.compareInt a.dst.2 b.dst.2, ordI a.att.tags b.att.tags] := by
  unfold keyR
  rw [ordI_cons, compare_neg]
  unfold firstI
  by_cases h1 : Lib.compareInt b.att.pref a.att.pref = 0
  · rw [if_pos h1, if_pos h1, ordI_cons]
    unfold firstI
    by_cases h2 : Lib.compareInt (a.att.path.length : Int) b.att.path.length = 0
    · rw [if_pos h2, if_pos h2]
      have hl : a.att.path.length = b.att.path.length := by have := (compare_zero _ _).1 h2; omega
      rw [ordI_cons, ordI_cons, ordI_cons, ordI_append _ _ hl, ordI_cons, ordI_cons]
      unfold firstI firstI firstI firstI firstI firstI firstI firstI
      have hz : (if ordI a.att.tags b.att.tags = 0 then (0 : Int) else ordI a.att.tags b.att.tags) = ordI a.att.tags b.att.tags := by split <;> simp_all
      rw [hz]
    · rw [if_neg h2, if_neg h2]
  · rw [if_neg h1, if_neg h1]

set_option linter.unusedVariables false in
set_option linter.unusedSimpArgs false in
set_option maxRecDepth 100000 in
set_option maxHeartbeats 4000000 in
theorem cmpInts_any (A B : List Int) (p q : Option Addr) (cp cq : Nat) (w : World) (hA : Ints w p A) (hB : Ints w q B) (h1 : A.length ≤ 1000000) (h2 : B.length ≤ 1000000) :
    Calls Try.prog 25 #[.slice p A.length cp, .slice q B.length cq] w fun r w' => r = .returned (.int .i64 (ordI A B)) ∧ w' = w := by
  obtain ⟨res, hres⟩ : ∃ x, Hid (ordI A B = x) := ⟨_, show _ = _ from rfl⟩
  rw [show ordI A B = res from hres.out]
  obtain ⟨HA⟩ : Nonempty (Hid (Ints w p A ∧ Ints w q B)) := ⟨⟨hA, hB⟩⟩
  clear hA hB
  obtain ⟨HC⟩ : Nonempty (Hid (∀ x y : Int, Calls Try.prog 24 #[.int .i64 x, .int .i64 y] w fun e w' => e = .returned (.int .i64 (Lib.compareInt x y)) ∧ w' = w)) := ⟨fun x y => Try.cmp_Compare_int x y w⟩
  go_enter Try.func25, Try.ntmps25
  go_wp2_with fail
  go_loopw [11] (fun i wr => ∃ k : Nat, i = .int .i64 k ∧ k ≤ A.length ∧ k ≤ B.length ∧ wr = w ∧ Hid (A.take k = B.take k)) (fun i _ => A.length - (intOf i).toNat)
  case atStart => exact ⟨0, rfl, Nat.zero_le _, Nat.zero_le _, rfl, by show _ = _; simp⟩
  case round =>
    obtain ⟨k, rfl, hk, hkb, rfl, HK⟩ := hrel
    by_cases hlt : k < A.length
    · have hltz : (k : Int) < A.length := by omega
      obtain ⟨b, o, rfl, c1⟩ := HA.out.1 k hlt
      by_cases hltb : k < B.length
      · have hltbz : ¬ (B.length : Int) ≤ (k : Int) := by omega
        have q1 : (k : Int) < B.length := by omega
        obtain ⟨b', o', rfl, c2⟩ := HA.out.2 k hltb
        obtain ⟨x, hx⟩ : ∃ x, Hid (A[k] = x) := ⟨_, show _ = _ from rfl⟩
        obtain ⟨y, hy⟩ : ∃ x, Hid (B[k] = x) := ⟨_, show _ = _ from rfl⟩
        rw [show A[k] = x from hx.out] at c1
        rw [show B[k] = y from hy.out] at c2
        have hc := HC.out x y
        obtain ⟨r, hr⟩ : ∃ r, Hid (Lib.compareInt x y = r) := ⟨_, show _ = _ from rfl⟩
        rw [show Lib.compareInt x y = r from hr.out] at hc
        by_cases hr0 : r = 0
        · subst hr0
          have hxy : A[k] = B[k] := by rw [hx.out, hy.out]; exact (compare_zero x y).1 hr.out
          obtain ⟨HN⟩ : Nonempty (Hid (A.take (k + 1) = B.take (k + 1))) := ⟨by show _ = _; rw [List.take_succ_eq_append_getElem hlt, List.take_succ_eq_append_getElem hltb, HK.out, hxy]⟩
          clear hxy hr hx hy HK
          go_wp2_with (go_at_call 24; refine hc.mono ?_; rintro e w1 ⟨rfl, rfl⟩)
          go_roundw
          case rel => exact ⟨k + 1, by go_num, by omega, by omega, by first | trivial | rfl, HN⟩
          case measure => simp [intOf]; omega
        · have hr1 : (r == 0) = false := beq_eq_false_iff_ne.2 hr0
          have hr2 : (r != 0) = true := by rw [bne, hr1]; rfl
          obtain ⟨HN⟩ : Nonempty (Hid (res = r)) := ⟨by
            show _ = _
            rw [← hres.out, ← hr.out]
            have hne : A[k] ≠ B[k] := by rw [hx.out, hy.out]; exact fun e => hr0 (hr.out ▸ (compare_zero x y).2 e)
            unfold ordI Lib.compareInt
            rcases Int.lt_or_gt_of_ne hne with g | g
            · have f := ltI_at HK.out hlt hltb g
              rw [hx.out, hy.out] at g
              rw [if_pos f.1, if_pos g]
            · have f := ltI_at HK.out.symm hltb hlt g
              rw [hx.out, hy.out] at g
              rw [if_neg (by rw [f.2]; simp), if_pos f.1, if_neg (by omega), if_pos g]⟩
          clear hr0 hr hx hy HK
          go_wp2_with (go_at_call 24; refine hc.mono ?_; rintro e w1 ⟨rfl, rfl⟩)
          go_ret
          exact ⟨by rw [HN.out]; rfl, rfl⟩
      · have hltbz : (B.length : Int) ≤ (k : Int) := by omega
        obtain ⟨HN⟩ : Nonempty (Hid (res = 1)) := ⟨by
          show _ = _
          rw [← hres.out]
          have hkB : k = B.length := by omega
          unfold ordI
          rw [ltI_short HK.out (.inr hkB), ltI_short HK.out.symm (.inl hkB), decide_eq_false (by omega), decide_eq_true (show B.length < A.length by omega)]
          rfl⟩
        go_wp2_with fail
        go_ret
        exact ⟨by rw [HN.out]; rfl, rfl⟩
    · have hltz : ¬ (k : Int) < A.length := by omega
      obtain rfl : k = A.length := by omega
      by_cases hl : A.length < B.length
      · have hlz : (A.length : Int) < B.length := by omega
        obtain ⟨HN⟩ : Nonempty (Hid (res = -1)) := ⟨by
          show _ = _
          rw [← hres.out]
          unfold ordI
          rw [ltI_short HK.out (.inl rfl), decide_eq_true hl]
          rfl⟩
        go_wp2_with fail
        go_ret
        exact ⟨by rw [HN.out]; rfl, rfl⟩
      · have hlz : ¬ (A.length : Int) < B.length := by omega
        obtain ⟨HN⟩ : Nonempty (Hid (res = 0)) := ⟨by
          show _ = _
          rw [← hres.out]
          unfold ordI
          rw [ltI_short HK.out (.inl rfl), ltI_short HK.out.symm (.inr rfl), decide_eq_false hl, decide_eq_false (by omega)]
          rfl⟩
        go_wp2_with fail
        go_ret
        exact ⟨by rw [HN.out]; rfl, rfl⟩

set_option linter.unusedVariables false in
set_option linter.unusedSimpArgs false in
set_option maxRecDepth 100000 in
set_option maxHeartbeats 4000000 in
theorem first_any (L : List Int) (p : Option Addr) (c : Nat) (w : World) (h : Ints w p L) (hl : L.length ≤ 1000) :
    Calls Try.prog 23 #[.slice p L.length c] w fun r w' => r = .returned (.int .i64 (firstI L)) ∧ w' = w := by
  obtain ⟨res, hres⟩ : ∃ x, Hid (firstI L = x) := ⟨_, show _ = _ from rfl⟩
  rw [show firstI L = res from hres.out]
  obtain ⟨HA⟩ : Nonempty (Hid (Ints w p L)) := ⟨h⟩
  clear h
  go_enter Try.func23, Try.ntmps23
  go_wp2_with fail
  go_loopw [7] (fun i wr => ∃ k : Nat, i = .int .i64 k ∧ k ≤ L.length ∧ wr = w ∧ Hid (∀ x ∈ L.take k, x = 0)) (fun i _ => L.length - (intOf i).toNat)
  case atStart => exact ⟨0, rfl, Nat.zero_le _, rfl, by show ∀ _ ∈ _, _; simp⟩
  case round =>
    obtain ⟨k, rfl, hk, rfl, HK⟩ := hrel
    by_cases hlt : k < L.length
    · have hltz : (k : Int) < L.length := by omega
      obtain ⟨b, o, rfl, c1⟩ := HA.out k hlt
      obtain ⟨x, hx⟩ : ∃ x, Hid (L[k] = x) := ⟨_, show _ = _ from rfl⟩
      rw [show L[k] = x from hx.out] at c1
      have hf := firstI_at L k hlt HK.out
      rw [show L[k] = x from hx.out] at hf
      by_cases h0 : x = 0
      · subst h0
        obtain ⟨HN⟩ : Nonempty (Hid (∀ x ∈ L.take (k + 1), x = 0)) := ⟨by
          show ∀ _ ∈ _, _
          intro y hy
          rw [List.take_succ_eq_append_getElem hlt, List.mem_append, List.mem_singleton] at hy
          rcases hy with hy | hy
          · exact HK.out y hy
          · rw [hy, hx.out]⟩
        clear hf HK hx
        go_wp2_with fail
        go_roundw
        case rel => exact ⟨k + 1, by go_num, by omega, by first | trivial | rfl, HN⟩
        case measure => simp [intOf]; omega
      · have h1 : (x == 0) = false := beq_eq_false_iff_ne.2 h0
        have h2 : (x != 0) = true := by rw [bne, h1]; rfl
        obtain ⟨HN⟩ : Nonempty (Hid (res = x)) := ⟨by show _ = _; rw [← hres.out, hf, if_neg h0]⟩
        clear hf HK hx h0
        go_wp2_with fail
        go_ret
        exact ⟨by rw [HN.out]; rfl, rfl⟩
    · have hltz : ¬ (k : Int) < L.length := by omega
      obtain ⟨HN⟩ : Nonempty (Hid (res = 0)) := ⟨by
        show _ = _
        rw [← hres.out]
        refine firstI_zero L ?_
        have := HK.out
        rwa [List.take_of_length_le (by omega)] at this⟩
      go_wp2_with fail
      go_ret
      exact ⟨by rw [HN.out]; rfl, rfl⟩

/-- a route's value: its eight cells. -/
def roV (x : RV) : Value := .agg (enc8 x).toArray
/-- a route's lists lie there. -/
def RvIn (w : World) (x : RV) : Prop := Ints w x.p x.r.att.path ∧ Ints w x.q x.r.att.tags
/-- package best's order of two routes. -/
def ordR (a b : Ro) : Int := ordI (keyR a) (keyR b)
end Go.Proofs.Ytkcacdlgmapjjaa
