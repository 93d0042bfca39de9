/-
  A whole row of pairs at an own row's end; the law's OwnPrefixes: what it returns.
-/
import Derived.Test.YthehpnhjfnenoaaDoorPairRow
import Derived.Laws.AppendOwnNone
namespace Go.Proofs.YthehpnhjfnenoaaDoor
open Go.RowKit

/-- a slice's value: nil, or at an address. -/
def Kind (v : Value) (n : Nat) : Prop := (v = .slice none 0 0 ∧ n = 0) ∨ ∃ ad c, v = .slice (some ad) n c
/-- a whole row of pairs at an own row's end. -/
theorem wp_addAll {P : Program} {W : World} {ops : Array Oper} {rest : List Oper} {o : Oper} {a : Act} {Q : Exit → Act → World → Prop} (hgd : o.guard = none) (s x : Operand) (t : TypeId)
    (ho : o.op = .call { callee := .builtin .append, args := #[s, x], argTypes := #[t, t] })
    (base : Nat) (e : TypeId) (i : TypeInfo) (ht : P.underlying t = some (.slice e)) (hi : P.info? e = some i) (hz : i.zero = some (.agg #[.int .i64 0, .int .i64 0])) (hsize : i.size = 2) (hby : i.bytes = 16)
    (v : Value) (O : List (Int × Int)) (hs : a.eval s = v) (hown : W.ownsRow base e 2 v O.length (flat2 O)) (p : Option Addr) (M : List (Int × Int)) (c : Nat) (hx : a.eval x = .slice p M.length c) (hk : Kind (.slice p M.length c) M.length) (hM : Pairs W p M) (O' : List (Int × Int)) (hO' : Hid (O ++ M = O'))
    (hO : O.length + M.length ≤ 1099511627776) (hbase : base ≤ W.heap.size)
    (h : ∀ v' w', w'.ownsRow base e 2 v' O'.length (flat2 O') → Below base W w' → wpList P ops Q rest (a.put o.dst v') w') : wpList P ops Q (o :: rest) a W := by
  rcases hk with ⟨hk, h0⟩ | ⟨ad, c', hk⟩
  · have hM0 : M = [] := List.eq_nil_of_length_eq_zero h0
    subst hM0
    rw [List.append_nil] at hO'
    have := hO'.out
    subst this
    rw [hk] at hx
    exact wpList_append_own_none hgd s x t ho base e i 2 ht hi v O.length (flat2 O) hs hown hx (h v W hown (Below.refl _ _))
  · simp only [Value.slice.injEq, true_and] at hk
    obtain ⟨rfl, rfl⟩ := hk
    refine wpList_append_own _ hgd s x t ho base e i (.agg #[.int .i64 0, .int .i64 0]) 2 16 ht hi hz hsize hby rfl (by decide) v O.length (flat2 O) hs hown ad M.length c (flat2 M) hx (flat2_length M) ?_ (flat2_one' M) (by unfold maxLen; omega) (by omega) hbase ?_
    · intro j u hj
      have hjl : j < M.length * 2 := by
        have := (List.getElem?_eq_some_iff.1 hj).1
        rwa [flat2_length] at this
      obtain ⟨b, o', e', c0, c1⟩ := hM (j / 2) (by omega)
      simp only [Option.some.injEq] at e'
      subst e'
      have f := flat2_get M (j / 2) (by omega)
      rw [show (⟨b, o', none⟩ : Addr).add j = ⟨b, o' + j, none⟩ by unfold Addr.add; split <;> simp_all]
      rcases Nat.mod_two_eq_zero_or_one j with hm | hm
      · have e2 : j = j / 2 * 2 := by omega
        have f1 := f.1
        rw [← e2, hj] at f1
        rw [← e2] at c0
        rw [c0, f1]
      · have e2 : j = j / 2 * 2 + 1 := by omega
        have f1 := f.2
        rw [← e2, hj] at f1
        rw [Nat.add_assoc, ← e2] at c1
        rw [c1, f1]
    · intro v' w1 hown' hgrow _
      rw [← hO'.out] at h
      refine h v' w1 (by rw [flat2_append, List.length_append]; exact hown') ((Below.refl base W).grown hgrow hbase (fun j hj => (hown.lt j hj).1))
set_option maxHeartbeats 1000000 in
theorem ownPrefixes_any (L : List (Int × Int)) (p : Option Addr) (c : Nat) (w : World) (hL : Pairs w p L) (hk : Kind (.slice p L.length c) L.length) (hl : L.length ≤ 1099511627776) :
    Calls Tryd.prog 37 #[.slice p L.length c] w fun e w' => (∃ v, e = .returned v ∧ w'.ownsRow w.heap.size 36 2 v L.length (flat2 L)) ∧ Below w.heap.size w w' := by
  obtain ⟨i0, hi, hz0, hz1, hz2⟩ := pInfo_parts infoPre
  obtain ⟨O', HO'⟩ : ∃ O', Hid (([] : List (Int × Int)) ++ L = O') := ⟨_, show _ = _ from rfl⟩
  have hnil : w.ownsRow w.heap.size 36 2 (.slice none 0 0) ([] : List (Int × Int)).length (flat2 []) := World.ownsRow_nil _ _ _ _
  obtain ⟨HL⟩ : Nonempty (Hid (Pairs w p L ∧ Kind (.slice p L.length c) L.length)) := ⟨⟨hL, hk⟩⟩
  clear hL hk
  go_enter Tryd.func37, Tryd.ntmps37
  go_wp2_with (at_builtin; refine wp_addAll rfl _ _ 60 rfl w.heap.size 36 i0 Tryd.underlying60 hi hz0 hz1 hz2 _ [] rfl hnil p L c rfl HL.out.2 HL.out.1 O' HO' (by simp; omega) (Nat.le_refl _) ?_)
  intro v' w1 hown hb
  have hO := HO'.out
  rw [List.nil_append] at hO
  subst hO
  go_wp2
  go_ret
  exact ⟨⟨_, rfl, hown⟩, hb⟩
end Go.Proofs.YthehpnhjfnenoaaDoor
