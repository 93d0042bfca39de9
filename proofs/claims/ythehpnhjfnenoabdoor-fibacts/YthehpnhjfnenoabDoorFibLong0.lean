/-
  FibLongest's mathematics: all of it, set anew; what is found; what is found without it.
-/
import Derived.Test.YthehpnhjfnenoabDoorFibSetAll
import Derived.Test.YthehpnhjfnenoabDoorFibOrder0
namespace Go.Proofs.YthehpnhjfnenoabDoor
open Go.RowKit

theorem srt_take {M : List Ent} (h : Srt M) (k : Nat) : Srt (M.take k) := List.Pairwise.sublist (List.take_sublist k M) h
theorem srt_lt {M : List Ent} (h : Srt M) {i j : Nat} (hi : i < M.length) (hj : j < M.length) (hlt : i < j) : lt2 M[i].1 M[j].1 = true := List.pairwise_iff_getElem.1 h i j hi hj hlt
theorem take_lt {M : List Ent} (h : Srt M) {k : Nat} (hk : k < M.length) : ∀ y ∈ M.take k, lt2 y.1 M[k].1 = true := by
  intro y hy
  obtain ⟨j, hj, rfl⟩ := List.getElem_of_mem hy
  rw [List.getElem_take]
  exact srt_lt h _ hk (by simp at hj; omega)
theorem put_last {M : List Ent} (h : Srt M) {k : Nat} (hk : k < M.length) : putL (M.take k) M[k] = M.take (k + 1) := by
  refine srt_unique _ _ (put_srt (srt_take h k) _) (srt_take h _) fun x => ?_
  rw [put_mem (srt_take h k), List.take_succ_eq_append_getElem hk, List.mem_append, List.mem_singleton]
  constructor
  · rintro (rfl | ⟨a, -⟩)
    · exact .inr rfl
    · exact .inl a
  · rintro (a | rfl)
    · exact .inr ⟨a, lt2_ne (take_lt h hk x a)⟩
    · exact .inl rfl
theorem acc_all {M : List Ent} (h : Srt M) (hr : Rts M) (hl : M.length ≤ 60) : ∀ k, k ≤ M.length → accL M k = M.take k ∧ okAt 60 M k := by
  intro k
  induction k with
  | zero => intro _; exact ⟨by simp [accL], fun i _ h => by omega⟩
  | succ k ih =>
    intro hk
    obtain ⟨h1, h2⟩ := ih (by omega)
    have hk' : k < M.length := by omega
    refine ⟨by rw [accL_succ hk', h1, put_last h hk'], okAt_succ h2 hk' ?_⟩
    rw [h1]
    unfold addC
    rw [if_pos (hr _ (List.getElem_mem hk')), if_neg ?_, if_neg ?_]
    · have : (M.take k).length ≤ k := List.length_take_le _ _
      omega
    · intro hh
      obtain ⟨y, hy, he⟩ := (hasL_iff _ _).1 hh
      exact lt2_ne (take_lt h hk' y hy) he
theorem set_all {M : List Ent} {F : List Nat} {tb : Nat} {E : Nat → Addr} {w w' : World} {r : Ending} (h : Srt M) (hr : Rts M) (hl : M.length ≤ 60) (hp : SetPost 60 F tb E M w r w') : PutPost 60 F tb .nilIface M w r w' := by
  obtain ⟨h1, h2⟩ := acc_all h hr hl M.length (Nat.le_refl _)
  rcases hp with ⟨-, e, F', g⟩ | ⟨i, hi, k, b, -, hc, -⟩
  · rw [h1, List.take_length] at g
    exact ⟨e, F', g⟩
  · have := h2 i hi hi
    omega
/-- is what was found among the first k? -/
def thereB (M : List Ent) (k : Nat) (e : Ent) (a : Int) : Bool := (M.take k).any fun x => decide (x = e) && hasB x.1.1 x.1.2 a
theorem there_step {M : List Ent} {k : Nat} (hk : k < M.length) (e : Ent) (a : Int) : thereB M (k + 1) e a = (thereB M k e a || (decide (M[k] = e) && hasB M[k].1.1 M[k].1.2 a)) := by
  unfold thereB
  rw [List.take_succ_eq_append_getElem hk, List.any_append]
  simp
theorem there_end {M : List Ent} {a : Int} {o : Option Ent} (h : Longest M a o) : thereB M M.length (accE o) a = o.isSome := by
  unfold thereB
  rw [List.take_length]
  cases o with
  | none =>
    simp only [Option.isSome_none, List.any_eq_false]
    intro x hx
    rw [h x hx]
    simp
  | some e =>
    simp only [Option.isSome_some, List.any_eq_true]
    exact ⟨e, h.1, by simp [accE, h.2.1]⟩
theorem longest_no {M : List Ent} {a : Int} {o : Option Ent} (h : Longest M a o) {x : Ent} (hx : x ∈ M) (hh : hasB x.1.1 x.1.2 a = true) : o.isSome = true ∧ x.1.2 ≤ (accE o).1.2 := by
  cases o with
  | none => have := h x hx; rw [hh] at this; cases this
  | some e => exact ⟨rfl, h.2.2 x hx hh⟩
/-- without what was found: something shorter, in which it is. -/
theorem longest_drop {M : List Ent} {a : Int} {e f : Ent} (hr : Rts M) (h : Longest M a (some e)) (h' : Longest (dropL M e.1) a (some f)) : f.1.2 < e.1.2 ∧ inB e.1.1 e.1.2 f.1.1 f.1.2 = true := by
  obtain ⟨f1, f2, -⟩ := h'
  obtain ⟨fm, fne⟩ := (drop_mem _ _ _).1 f1
  obtain ⟨e1, e2, e3⟩ := h
  have hle := e3 f fm f2
  have hne : f.1.2 ≠ e.1.2 := fun he => fne (same_len (hr f fm) (hr e e1) f2 e2 he)
  refine ⟨by omega, ?_⟩
  rcases both_in (hr e e1) (hr f fm) e2 f2 with h | h
  · exact h
  · have := ((in_iff_span (hr f fm) (hr e e1)).1 h).1
    omega
theorem less_next {M : List Ent} (h : Srt M) (hr : Rts M) {k j : Nat} (hk : k < M.length) (hj : j + 1 = k) (hj' : j < M.length) : lessB M[j].1.1 M[j].1.2 M[k].1.1 M[k].1.2 = true := by
  rw [lt2_less (hr _ (List.getElem_mem hj')) (hr _ (List.getElem_mem hk))]
  exact srt_lt h hj' hk (by omega)
end Go.Proofs.YthehpnhjfnenoabDoor
