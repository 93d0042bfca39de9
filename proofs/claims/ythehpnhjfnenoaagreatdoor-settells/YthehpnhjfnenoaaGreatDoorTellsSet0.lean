/-
  The law SetTells: what each of package set's functions returns beside the document's answer: one list, one fault.
-/
import Derived.Test.YthehpnhjfnenoaaGreatDoorRefSetBad
namespace Go.Proofs.YthehpnhjfnenoaaGreatDoor
open Go.RowKit

/-- an error's number and place, in whatever memory that has grown. -/
def CodeOK (w : World) (v : Value) (f0 f1 : Int) : Prop := ∀ w', Below w.heap.size w w' → Calls Tryz.prog 22 #[v] w' fun ev w'' => ev = .returned (.tuple #[.int .i64 f0, .int .i64 f1]) ∧ Below w'.heap.size w' w''
theorem CodeOK.below {w w' : World} {v : Value} {f0 f1 : Int} (h : CodeOK w v f0 f1) (hb : Below w.heap.size w w') : CodeOK w' v f0 f1 := fun w'' h2 => h w'' (hb.trans (h2.mono hb.size))
theorem codeOK_nil (w : World) : CodeOK w .nilIface 0 (-1) := fun w' _ => (code_nil w').mono fun _ _ ⟨he, hw⟩ => ⟨he, by rw [hw]; exact Below.refl _ _⟩
theorem Faults.below {w w' : World} {v : Value} {l : List (Int × Int)} {i : Nat} {eb es : Addr} (h : Faults w v l i eb es) (hb : Below w.heap.size w w') : Faults w' v l i eb es := by
  obtain ⟨hi, b, hv, hr⟩ := h
  exact ⟨hi, b, hv, by rw [hb.block b (Array.getElem?_eq_some_iff.1 hr).1]; exact hr⟩
theorem codeOK_fault {w : World} {v : Value} {l : List (Int × Int)} {i : Nat} {e : Nat → Addr} {f0 f1 : Int} (hf : Hid (faultC l i = (f0, f1))) (hE : ErrsLaid w e) (h : Faults w v l i (e 1) (e 2)) (hR : RightTo l i) : CodeOK w v f0 f1 :=
  fun w' hb => code_of l i v e f0 f1 hf w' (hE.below hb) (h.below hb) (fun hi => hR.no hi)
/-- an error, and its number and place. -/
def ErrR (e : Nat → Addr) (w : World) (v : Value) (f0 f1 : Int) : Prop := (v = .nilIface ∧ f0 = 0 ∧ f1 = -1) ∨ ∃ (l : List (Int × Int)) (i : Nat), Hid (faultC l i = (f0, f1)) ∧ Faults w v l i (e 1) (e 2) ∧ RightTo l i
theorem ErrR.mk {e : Nat → Addr} {w : World} {v : Value} {f0 f1 : Int} {l : List (Int × Int)} {i : Nat} (hf : Hid (faultC l i = (f0, f1))) (hF : Faults w v l i (e 1) (e 2)) (hR : RightTo l i) : ErrR e w v f0 f1 := .inr ⟨l, i, hf, hF, hR⟩
theorem ErrR.code {e : Nat → Addr} {w : World} {v : Value} {f0 f1 : Int} (h : ErrR e w v f0 f1) (hE : ErrsLaid w e) : CodeOK w v f0 f1 := by
  rcases h with ⟨rfl, rfl, rfl⟩ | ⟨l, i, hf, hF, hR⟩
  · exact codeOK_nil w
  · exact codeOK_fault hf hE hF hR
theorem ErrR.below {e : Nat → Addr} {w w' : World} {v : Value} {f0 f1 : Int} (h : ErrR e w v f0 f1) (hb : Below w.heap.size w w') : ErrR e w' v f0 f1 := by
  rcases h with h | ⟨l, i, hf, hF, hR⟩
  · exact .inl h
  · exact .inr ⟨l, i, hf, hF.below hb, hR⟩
theorem ErrR.stored {e : Nat → Addr} {w : World} {v : Value} {f0 f1 : Int} {b : Nat} {x y u z : Value} (h : ErrR e w v f0 f1) (hb : w.heap[b]? = some (.cells #[x, y] 30 (0, 0))) : ErrR e ((w.setCell ⟨b, 0, none⟩ u).setCell ⟨b, 1, none⟩ z) v f0 f1 := by
  rcases h with h | ⟨l, i, hf, ⟨hi, b', hv, hr⟩, hR⟩
  · exact .inl h
  · have hne : b' ≠ b := by
      intro e1
      rw [e1, hb] at hr
      simp only [Option.some.injEq, Obj.cells.injEq] at hr
      exact absurd hr.2.1 (by decide)
    exact .inr ⟨l, i, hf, ⟨hi, b', hv, by rw [Below.heap_setCell _ _ _ _ hne, Below.heap_setCell _ _ _ _ hne]; exact hr⟩, hR⟩
/-- a list in memory, and whether it is a set (else nothing). -/
structure Res (w : World) (v : Value) (L : List (Int × Int)) (ok : Bool) (g : Int → Bool) : Prop where
  row : ∃ q c, v = .slice q L.length c ∧ Pairs w q L
  typed : Typed w v
  yes : ok = true → NP L ∧ ∀ x, inPB L x = g x
  no : ok = false → L = []
theorem Res.below {w w' : World} {v : Value} {L : List (Int × Int)} {ok : Bool} {g : Int → Bool} (h : Res w v L ok g) (hb : Below w.heap.size w w') : Res w' v L ok g := by
  obtain ⟨q, c, e, hp⟩ := h.row
  exact ⟨⟨q, c, e, hp.below hb⟩, h.typed.below hb, h.yes, h.no⟩
theorem res_nil (w : World) (g : Int → Bool) : Res w (.slice none 0 0) [] false g := ⟨⟨none, 0, rfl, pairs_nil _ _⟩, (fun ad n c h => by cases h), (fun h => by cases h), fun _ => rfl⟩
theorem res_hold {w : World} {v : Value} {L : List (Int × Int)} {g : Int → Bool} (h : Holdn w v L g) : Res w v L true g := by
  obtain ⟨q, c, e, -, -, hp⟩ := h.row
  exact ⟨⟨q, c, e, hp⟩, h.typed, fun _ => ⟨h.np, fun x => bool_of_iff (inPB_iff _ _) Iff.rfl (h.has x)⟩, fun h => by cases h⟩
theorem res_same {w w' : World} {v v' : Value} {L M : List (Int × Int)} {ok : Bool} {g g' : Int → Bool} (h : Res w v L ok g) (h' : Res w' v' M ok g') (hg : ∀ x, g x = g' x) : L = M := by
  cases ok with
  | false => rw [h.no rfl, h'.no rfl]
  | true => exact np_unique L M (h.yes rfl).1 (h'.yes rfl).1 (fun x => by rw [← inPB_iff, ← inPB_iff, (h.yes rfl).2, (h'.yes rfl).2, hg])
theorem Res.few {w : World} {v : Value} {L : List (Int × Int)} {ok : Bool} {g : Int → Bool} (h : Res w v L ok g) : L.length ≤ 4294967296 := by
  cases ok with
  | false => rw [h.no rfl]; simp
  | true => exact (h.yes rfl).1.few
theorem Res.right {w : World} {v : Value} {L : List (Int × Int)} {ok : Bool} {g : Int → Bool} (h : Res w v L ok g) : Rights L := by
  cases ok with
  | false => rw [h.no rfl]; intro p hp; cases hp
  | true => exact (h.yes rfl).1.right
/-- behind a store into a box of faults. -/
theorem Res.stored {w : World} {v : Value} {L : List (Int × Int)} {ok : Bool} {g : Int → Bool} {b : Nat} {x y u z : Value} (h : Res w v L ok g) (hb : w.heap[b]? = some (.cells #[x, y] 30 (0, 0))) : Res ((w.setCell ⟨b, 0, none⟩ u).setCell ⟨b, 1, none⟩ z) v L ok g := by
  obtain ⟨q, c, rfl, hp⟩ := h.row
  have hne : ∀ ad : Addr, q = some ad → ad.block ≠ b := fun ad e hbb => by
    subst e
    obtain ⟨cur, hc⟩ := h.typed ad _ _ rfl
    rw [hbb, hb] at hc
    simp only [Option.some.injEq, Obj.cells.injEq] at hc
    exact absurd hc.2.1 (by decide)
  refine ⟨⟨q, c, rfl, fun i hi => ?_⟩, fun ad n c' hv => ?_, h.yes, h.no⟩
  · obtain ⟨bb, oo, e, c0, c1⟩ := hp i hi
    have := hne _ e
    exact ⟨bb, oo, e, store_kept c0 this _ _, store_kept c1 this _ _⟩
  · obtain ⟨cur, hc⟩ := h.typed ad n c' hv
    simp only [Value.slice.injEq] at hv
    have := hne ad hv.1
    exact ⟨cur, by rw [Below.heap_setCell _ _ _ _ this, Below.heap_setCell _ _ _ _ this]; exact hc⟩

/-- the fault of two lists. -/
def fault2 (a b : List (Int × Int)) (i j : Nat) : Int × Int := if i < a.length then faultC a i else faultC b j
theorem normR (a : List (Int × Int)) (i : Nat) (hR : RightTo a i) (f0 f1 : Int) (hf : Hid (faultC a i = (f0, f1))) (p : Option Addr) (c : Nat) (e : Nat → Addr) (w : World) (hE : SetEnv w (e 0) (e 1) (e 2)) (hs : Pairs w p a) (hl : a.length ≤ 137438953472) :
    Calls Tryz.prog 6 #[.slice p a.length c] w fun r w' => (∃ L v err, r = .returned (.tuple #[v, err]) ∧ Res w' v L (decide (i = a.length)) (inPB a) ∧ ErrR e w' err f0 f1) ∧ Below w.heap.size w w' := by
  refine (norm_any a i hR p c (e 0) (e 1) (e 2) w hE hs hl).mono ?_
  rintro r w' ⟨⟨hi, L, v, rfl, hG⟩ | ⟨v, rfl, hF⟩, hb⟩
  · refine ⟨⟨L, v, .nilIface, rfl, by rw [decide_eq_true hi]; exact res_hold hG, ?_⟩, hb⟩
    have h := hf.out
    unfold faultC at h
    rw [dif_neg (by omega)] at h
    simp only [Prod.mk.injEq] at h
    rw [← h.1, ← h.2]
    exact .inl ⟨rfl, rfl, rfl⟩
  · have hi := hF.1
    exact ⟨⟨[], _, v, rfl, by rw [decide_eq_false (by omega)]; exact res_nil w' _, ErrR.mk hf hF hR⟩, hb⟩
theorem opR (F : Nat) (q : Bool → Bool → Bool) (a b : List (Int × Int)) (i j : Nat) (hRa : RightTo a i) (hRb : RightTo b j) (f0 f1 : Int) (hf : Hid (fault2 a b i j = (f0, f1))) (pa pb : Option Addr) (ca cb : Nat) (e : Nat → Addr) (w : World)
    (h : Calls Tryz.prog F #[.slice pa a.length ca, .slice pb b.length cb] w fun r w' => ((i = a.length ∧ j = b.length ∧ ∃ L v, r = .returned (.tuple #[v, .nilIface]) ∧ Holdn w' v L (askB q a b)) ∨
      (∃ v, r = .returned (.tuple #[.slice none 0 0, v]) ∧ Faults w' v a i (e 1) (e 2)) ∨ (i = a.length ∧ ∃ v, r = .returned (.tuple #[.slice none 0 0, v]) ∧ Faults w' v b j (e 1) (e 2))) ∧ Below w.heap.size w w') :
    Calls Tryz.prog F #[.slice pa a.length ca, .slice pb b.length cb] w fun r w' => (∃ L v err, r = .returned (.tuple #[v, err]) ∧ Res w' v L (decide (i = a.length) && decide (j = b.length)) (askB q a b) ∧ ErrR e w' err f0 f1) ∧ Below w.heap.size w w' := by
  refine h.mono ?_
  rintro r w' ⟨⟨hi, hj, L, v, rfl, hG⟩ | ⟨v, rfl, hF⟩ | ⟨hi, v, rfl, hF⟩, hb⟩
  · refine ⟨⟨L, v, .nilIface, rfl, by rw [decide_eq_true hi, decide_eq_true hj]; exact res_hold hG, ?_⟩, hb⟩
    have h := hf.out
    unfold fault2 faultC at h
    rw [if_neg (by omega), dif_neg (by omega)] at h
    simp only [Prod.mk.injEq] at h
    rw [← h.1, ← h.2]
    exact .inl ⟨rfl, rfl, rfl⟩
  · have hi := hF.1
    have hf' : Hid (faultC a i = (f0, f1)) := by have h := hf.out; unfold fault2 at h; rw [if_pos hi] at h; exact h
    exact ⟨⟨[], _, v, rfl, by rw [decide_eq_false (by omega)]; exact res_nil w' _, ErrR.mk hf' hF hRa⟩, hb⟩
  · have hj := hF.1
    have hf' : Hid (faultC b j = (f0, f1)) := by have h := hf.out; unfold fault2 at h; rw [if_neg (by omega)] at h; exact h
    exact ⟨⟨[], _, v, rfl, by rw [decide_eq_false (p := j = b.length) (by omega), Bool.and_false]; exact res_nil w' _, ErrR.mk hf' hF hRb⟩, hb⟩
theorem setOfR (a b : List (Int × Int)) (i j : Nat) (hRa : RightTo a i) (hRb : RightTo b j) (f0 f1 : Int) (hf : Hid (fault2 a b i j = (f0, f1))) (qa qb : Option Addr) (ca cb : Nat) (k : Int) (w : World) (hpa : Pairs w qa a) (hpb : Pairs w qb b) (hla : a.length ≤ 1048576) (hlb : b.length ≤ 1048576) :
    Calls Tryz.prog 7 #[.slice qa a.length ca, .slice qb b.length cb, .int .i64 k] w fun r w' => (∃ L v, r = .returned (.tuple #[v, .agg #[.int .i64 f0, .int .i64 f1]]) ∧ Res w' v L (decide (i = a.length) && decide (j = b.length)) (wantG a b k)) ∧ Below w.heap.size w w' := by
  have h := hf.out
  unfold fault2 at h
  by_cases hi : i < a.length
  · rw [if_pos hi] at h
    refine (rSetOf_badA a b i j hRa hRb hi f0 f1 h qa qb ca cb k w hpa hpb hla hlb).mono ?_
    rintro r w' ⟨rfl, hb⟩
    exact ⟨⟨[], _, rfl, by rw [decide_eq_false (by omega)]; exact res_nil w' _⟩, hb⟩
  · have hi' : i = a.length := by have := hRa.le; omega
    rw [if_neg hi] at h
    by_cases hj : j < b.length
    · refine (rSetOf_badB a b i j hRa hRb hi' hj f0 f1 h qa qb ca cb k w hpa hpb hla hlb).mono ?_
      rintro r w' ⟨rfl, hb⟩
      exact ⟨⟨[], _, rfl, by rw [decide_eq_false (p := j = b.length) (by omega), Bool.and_false]; exact res_nil w' _⟩, hb⟩
    · have hj' : j = b.length := by have := hRb.le; omega
      unfold faultC at h
      rw [dif_neg (by omega)] at h
      simp only [Prod.mk.injEq] at h
      obtain ⟨rfl, rfl⟩ := h
      subst hi' hj'
      refine (rSetOf_ok a b hRa hRb qa qb ca cb k w hpa hpb hla hlb).mono ?_
      rintro r w' ⟨⟨L, q, c, rfl, hN, hS, hP, hT⟩, hb⟩
      exact ⟨⟨L, _, rfl, by simp only [decide_true, Bool.and_true]; exact ⟨⟨q, c, rfl, hP⟩, hT, fun _ => ⟨hN, hS⟩, fun h => by cases h⟩⟩, hb⟩
theorem countR (a : List (Int × Int)) (i : Nat) (hR : RightTo a i) (f0 f1 : Int) (hf : Hid (faultC a i = (f0, f1))) (L : List (Int × Int)) (hL0 : decide (i = a.length) = true → NP L ∧ ∀ x, inPB L x = inPB a x) (hL1 : decide (i = a.length) = false → L = []) (p : Option Addr) (c : Nat) (e : Nat → Addr) (w : World) (hE : SetEnv w (e 0) (e 1) (e 2)) (hs : Pairs w p a) (hl : a.length ≤ 137438953472) :
    Calls Tryz.prog 10 #[.slice p a.length c] w fun r w' => (∃ err, r = .returned (.tuple #[.int .i64 (sumP L), err]) ∧ ErrR e w' err f0 f1) ∧ Below w.heap.size w w' := by
  refine (count_any a i hR p c (e 0) (e 1) (e 2) w hE hs hl).mono ?_
  rintro r w' ⟨⟨hi, s, rfl, hs⟩ | ⟨v, rfl, hF⟩, hb⟩
  · obtain ⟨hN, hS⟩ := hL0 (decide_eq_true hi)
    obtain ⟨N, hN'⟩ : ∃ N : Nat, N = 4294967296 := ⟨_, rfl⟩
    have e1 : s = sumP L := by rw [hs N hN', ← cnt_np N hN' L hN, cnt_congr hS]
    refine ⟨⟨.nilIface, by rw [e1], ?_⟩, hb⟩
    have h := hf.out
    unfold faultC at h
    rw [dif_neg (by omega)] at h
    simp only [Prod.mk.injEq] at h
    rw [← h.1, ← h.2]
    exact .inl ⟨rfl, rfl, rfl⟩
  · have hi := hF.1
    have e1 : L = [] := hL1 (decide_eq_false (by omega))
    subst e1
    exact ⟨⟨v, rfl, ErrR.mk hf hF hR⟩, hb⟩
end Go.Proofs.YthehpnhjfnenoaaGreatDoor
