/-
  The document's NumbersOf: the numbers of words.
-/
import Derived.Test.YtkebcfjofeoehaaGreatDoorAttrRow
import Derived.Test.YtkebcfjofeoehaaGreatDoorRefCut
namespace Go.Proofs.YtkebcfjofeoehaaGreatDoor
open Go.RowKit

/-- what a slice at p holds: texts. -/
def Strs (w : World) (p : Option Addr) (L : List (List UInt8)) : Prop :=
  ∀ i (h : i < L.length), ∃ b o, p = some ⟨b, o, none⟩ ∧ w.cell? ⟨b, o + i, none⟩ = some (strV L[i])
theorem Strs.below {w w' : World} {p : Option Addr} {L : List (List UInt8)} (h : Strs w p L) (hb : Below w.heap.size w w') : Strs w' p L := fun i hi => by
  obtain ⟨b, o, e, c⟩ := h i hi
  exact ⟨b, o, e, cell_kept hb c⟩
def intV (x : Int) : Value := .int .i64 x
theorem own_ints {w : World} {B : Nat} {e : TypeId} {v : Value} {L : List Int} (h : w.ownsRow B e 1 v L.length (L.map intV)) : ∃ p cap, v = .slice p L.length cap ∧ L.length ≤ cap ∧ cap ≤ maxLen ∧ Ints w p L := by
  rcases h.2 with ⟨hv, h0⟩ | ⟨g, cap, cur, hv, hb, hg, h1, h2, h3, h4⟩
  · have : L = [] := List.eq_nil_of_length_eq_zero h0
    subst this
    exact ⟨none, 0, hv, by simp, by simp, ints_nil _ _⟩
  · refine ⟨some ⟨g, 0, none⟩, cap, hv, h1, h2, fun i hi => ⟨g, 0, rfl, ?_⟩⟩
    subst hv
    rw [Nat.zero_add, h.cellAt _ (by omega)]
    simp [hi, intV]
theorem own_strs {w : World} {B : Nat} {e : TypeId} {v : Value} {L : List (List UInt8)} (h : w.ownsRow B e 1 v L.length (L.map strV)) : ∃ p cap, v = .slice p L.length cap ∧ L.length ≤ cap ∧ cap ≤ maxLen ∧ Strs w p L := by
  rcases h.2 with ⟨hv, h0⟩ | ⟨g, cap, cur, hv, hb, hg, h1, h2, h3, h4⟩
  · have : L = [] := List.eq_nil_of_length_eq_zero h0
    subst this
    exact ⟨none, 0, hv, by simp, by simp, fun i hi => by simp at hi⟩
  · refine ⟨some ⟨g, 0, none⟩, cap, hv, h1, h2, fun i hi => ⟨g, 0, rfl, ?_⟩⟩
    subst hv
    rw [Nat.zero_add, h.cellAt _ (by omega)]
    simp [hi]
theorem infoInt : (Tryz.prog.info? 3).map (fun i => (i.zero, i.size, i.bytes)) = some (some (.int .i64 0), 1, 8) := by kernel_rfl
theorem rel_int {B : Nat} {w wr w1 : World} {v v' : Value} {o : Obj} {done : List Int} {x : Int} (hB : B ≤ wr.heap.size)
    (hown : wr.ownsRow B 3 1 v done.length (done.map intV)) (hnx : Below B w wr)
    (hown' : w1.ownsRow B 3 1 v' (done.length + 1) (done.map intV ++ [intV x])) (hgrow : (wr.alloc o).grownBy w1 v.ownBlock) :
    w1.ownsRow B 3 1 v' (done ++ [x]).length ((done ++ [x]).map intV) ∧ Below B w w1 :=
  ⟨by simpa using hown', (hnx.alloc hB o).grown hgrow (by simp; omega) (fun j hj => (hown.lt j hj).1)⟩
/-- the words are numbers, all of them. -/
def allNum (L : List (List UInt8)) : Bool := L.all okNum
theorem numR_sign (l : List UInt8) : (okNum l = true ∧ 0 ≤ numR l) ∨ (okNum l = false ∧ numR l = -1) := by
  cases h : okNum l with
  | false => exact .inr ⟨rfl, numR_not h⟩
  | true => exact .inl ⟨rfl, by rw [numR_yes h]; exact (valD_lt _ l rfl (by unfold okNum at h; simp only [Bool.and_eq_true] at h; exact h.2)).1⟩

set_option linter.unusedVariables false in
set_option maxRecDepth 100000 in
set_option maxHeartbeats 4000000 in
theorem rNumbersOf_any (p : Option Addr) (L : List (List UInt8)) (k0 cap : Nat) (w : World) (h : Strs w p L) (hk : k0 = L.length) (hl : L.length ≤ 1099511627776) (hs : ∀ l ∈ L, l.length ≤ maxLen) :
    Calls Tryz.prog 52 #[.slice p k0 cap] w fun e w' => (∃ v, e = .returned (.tuple #[v, .bool (allNum L)]) ∧ ((allNum L = true ∧ w'.ownsRow w.heap.size 3 1 v L.length ((L.map numR).map intV)) ∨ (allNum L = false ∧ v = .slice none 0 0))) ∧ Below w.heap.size w w' := by
  subst hk
  obtain ⟨i0, hi, hz0, hz1, hz2⟩ := info_parts infoInt
  obtain ⟨HE⟩ : Nonempty (Hid (Strs w p L ∧ ∀ l ∈ L, l.length ≤ maxLen)) := ⟨⟨h, hs⟩⟩
  obtain ⟨B, hB⟩ : ∃ B, Hid (w.heap.size = B) := ⟨_, show _ = _ from rfl⟩
  rw [show w.heap.size = B from hB.out]
  clear h hs
  go_enter Tryz.func52, Tryz.ntmps52
  go_wp2_with fail
  go_loopw [4, 5, 6] (fun v i _ wr => ∃ (k : Nat) (done : List Int), i = .int .i64 k ∧ k ≤ L.length ∧ Hid ((∀ j (hj : j < L.length), j < k → okNum L[j] = true) ∧ (L.take k).map numR = done) ∧ wr.ownsRow B 3 1 v done.length (done.map intV) ∧ Below B w wr) (fun _ i _ _ => L.length - (intOf i).toNat)
  case atStart => exact ⟨0, [], rfl, Nat.zero_le _, ⟨fun j _ h => by omega, rfl⟩, World.ownsRow_nil _ _ _ _, Below.refl _ _⟩
  case round =>
    obtain ⟨k, done, rfl, hkl, HK, hown, hnx⟩ := hrel
    have hBw : B ≤ wr.heap.size := by rw [← hB.out]; exact hnx.size
    by_cases hlt : k < L.length
    · have q3 : (k : Int) < L.length := by omega
      obtain ⟨b, o, rfl, x0⟩ := HE.out.1 k hlt
      have hbw : Below w.heap.size w wr := by rw [show w.heap.size = B from hB.out]; exact hnx
      have d0 := cell_kept hbw x0
      obtain ⟨x, hx⟩ : ∃ x, Hid (L[k] = x) := ⟨_, show _ = _ from rfl⟩
      rw [show L[k] = x from hx.out] at d0
      unfold strV at d0
      obtain ⟨HC⟩ : Nonempty (Hid (Calls _ _ _ _ _)) := ⟨rNumberOf_any ⟨x.toArray⟩ wr (by have := HE.out.2 L[k] (List.getElem_mem hlt); rw [hx.out] at this; show x.toArray.size ≤ maxLen; simpa using this)⟩
      simp only at HC
      obtain ⟨n, hn⟩ : ∃ n, Hid (numR x = n) := ⟨_, show _ = _ from rfl⟩
      rw [show numR x = n from hn.out] at HC
      clear x0 hbw
      rcases numR_sign x with ⟨ok, hs⟩ | ⟨ok, hs⟩
      · rw [show numR x = n from hn.out] at hs
        have hd : decide (n < 0) = false := decide_eq_false (by omega)
        obtain ⟨HN⟩ : Nonempty (Hid ((∀ j (hj : j < L.length), j < k + 1 → okNum L[j] = true) ∧ (L.take (k + 1)).map numR = done ++ [n])) := ⟨⟨fun j hj hjk => by
            by_cases he : j = k
            · subst he; rw [hx.out]; exact ok
            · exact HK.out.1 j hj (by omega), by
            rw [List.take_succ_eq_append_getElem hlt, List.map_append, HK.out.2, hx.out]; simp only [List.map_cons, List.map_nil]; rw [hn.out]⟩⟩
        clear hs ok
        go_wp2_with fail
        refine HC.out.mono ?_
        rintro e w1 ⟨rfl, rfl⟩
        clear HC d0
        have hlen : done.length ≤ 1099511627776 := by rw [← HK.out.2]; simp; omega
        go_wp2_with (at_builtin; refine wpList_append_own _ rfl _ _ 22 rfl B 3 i0 (.int .i64 0) 1 8 Tryz.underlying22 hi hz0 hz1 hz2 rfl (by decide) _ _ _ rfl (hown.alloc _) ⟨w1.heap.size, 0, none⟩ 1 1 [intV n] rfl rfl ?c1 ?c2 ?c3 ?c4 ?c5 ?_)
        case c1 =>
          intro j u hj
          match j, hj with
          | 0, hj => simp at hj; subst hj; simp [Addr.add, intV]
        case c2 => intro u hu; simp at hu; subst hu; rfl
        case c3 => unfold maxLen; omega
        case c4 => omega
        case c5 => simp; omega
        intro v' w2 hown' hgrow _
        have R := rel_int (x := n) hBw hown hnx hown' hgrow
        clear hown' hgrow hown hnx
        go_wp2_with fail
        go_roundw
        case rel => exact ⟨k + 1, done ++ [n], by go_num, by omega, HN, R.1, R.2⟩
        case measure => simp [intOf]; omega
      · rw [show numR x = n from hn.out] at hs
        have hd : decide (n < 0) = true := decide_eq_true (by omega)
        have HA : Hid (allNum L = false) := by
          show _ = _
          unfold allNum
          rw [← Bool.not_eq_true, List.all_eq_true]
          intro ha
          have := ha L[k] (List.getElem_mem hlt)
          rw [hx.out, ok] at this
          cases this
        clear hs ok
        go_wp2_with fail
        refine HC.out.mono ?_
        rintro e w1 ⟨rfl, rfl⟩
        clear HC d0
        go_wp2_with fail
        exact bodyPost_ret (v := .tuple #[.slice none 0 0, .bool false]) (by simp [results, Tryz.results52, go_sem]) rfl ⟨⟨_, by rw [HA.out], .inr ⟨HA.out, rfl⟩⟩, hnx⟩
    · obtain rfl : k = L.length := by omega
      have HA : Hid (allNum L = true) := by
        show _ = _
        unfold allNum
        rw [List.all_eq_true]
        intro x hx
        obtain ⟨i, hi, rfl⟩ := List.getElem_of_mem hx
        exact HK.out.1 i hi hi
      rw [← HK.out.2, List.take_length, List.length_map] at hown
      obtain ⟨HO⟩ : Nonempty (Hid _) := ⟨hown⟩
      clear hown
      go_wp2_with fail
      exact bodyPost_ret (v := .tuple #[u4, .bool true]) (by simp [results, Tryz.results52, go_sem]) rfl ⟨⟨_, by rw [HA.out], .inl ⟨HA.out, HO.out⟩⟩, hnx⟩
end Go.Proofs.YtkebcfjofeoehaaGreatDoor
