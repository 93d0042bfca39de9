/-
  The document's NumbersOf: the numbers of words.
-/
import Derived.Test.YtkcacdlgmapjjaaAttrRow
import Derived.Test.YtkcacdlgmapjjaaRefCut
namespace Go.Proofs.Ytkcacdlgmapjjaa
open Go.RowKit

/-- what a slice at p holds: texts. -/
def Strs (w : World) (p : Option Addr) (L : List (List UInt8)) : Prop :=
  ∀ i (h : i < L.length), ∃ b o, p = some ⟨b, o, none⟩ ∧ w.cell? ⟨b, o + i, none⟩ = some (strV L[i])
theorem Strs.below {w w' : World} {p : Option Addr} {L : List (List UInt8)} (h : Strs w p L) (hb : Below w.heap.size w w') : Strs w' p L := fun i hi => by
  obtain ⟨b, o, e, c⟩ := h i hi
  exact ⟨b, o, e, cell_kept hb c⟩
def intV (x : Int) : Value := .int .i64 x
theorem own_ints {w : World} {B : Nat} {e : TypeId} {v : Value} {L : List Int} (h : w.ownsRow B e 1 v L.length (L.map intV)) : ∃ p cap, v = .slice p L.length cap ∧ L.length ≤ cap ∧ cap ≤ maxLen ∧ Ints w p L := by
  rcases h.2 with ⟨hv, h0⟩ | ⟨g, cap, cur, hv, hb, hg, h1, h2, h3, h4⟩
  · have : L = [] := List.eq_nil_of_length_eq_zero h0
    subst this
    exact ⟨none, 0, hv, by simp, by simp, ints_nil _ _⟩
  · refine ⟨some ⟨g, 0, none⟩, cap, hv, h1, h2, fun i hi => ⟨g, 0, rfl, ?_⟩⟩
    subst hv
    rw [Nat.zero_add, h.cellAt _ (by omega)]
    simp [hi, intV]
theorem own_strs {w : World} {B : Nat} {e : TypeId} {v : Value} {L : List (List UInt8)} (h : w.ownsRow B e 1 v L.length (L.map strV)) : ∃ p cap, v = .slice p L.length cap ∧ L.length ≤ cap ∧ cap ≤ maxLen ∧ Strs w p L := by
  rcases h.2 with ⟨hv, h0⟩ | ⟨g, cap, cur, hv, hb, hg, h1, h2, h3, h4⟩
  · have : L = [] := List.eq_nil_of_length_eq_zero h0
    subst this
    exact ⟨none, 0, hv, by simp, by simp, fun i hi => by simp at hi⟩
  · refine ⟨some ⟨g, 0, none⟩, cap, hv, h1, h2, fun i hi => ⟨g, 0, rfl, ?_⟩⟩
    subst hv
    rw [Nat.zero_add, h.cellAt _ (by omega)]
    simp [hi]
theorem infoInt : (Try.prog.info? 3).map (fun i => (i.zero, i.size, i.bytes)) = some (some (.int .i64 0), 1, 8) := by kernel_rfl
theorem rel_int {B : Nat} {w wr w1 : World} {v v' : Value} {o : Obj} {done : List Int} {x : Int} (hB : B ≤ wr.heap.size)
    (hown : wr.ownsRow B 3 1 v done.length (done.map intV)) (hnx : Below B w wr)
    (hown' : w1.ownsRow B 3 1 v' (done.length + 1) (done.map intV ++ [intV x])) (hgrow : (wr.alloc o).grownBy w1 v.ownBlock) :
    w1.ownsRow B 3 1 v' (done ++ [x]).length ((done ++ [x]).map intV) ∧ Below B w w1 :=
  ⟨by simpa using hown', (hnx.alloc hB o).grown hgrow (by simp; omega) (fun j hj => (hown.lt j hj).1)⟩
/-- the words are numbers, all of them. -/
def allNum (L : List (List UInt8)) : Bool := L.all okNum
theorem numR_sign (l : List UInt8) : (okNum l = true ∧ 0 ≤ numR l) ∨ (okNum l = false ∧ numR l = -1) := by
  cases h : okNum l with
  | false => exact .inr ⟨rfl, numR_not h⟩
  | true => exact .inl ⟨rfl, by rw [numR_yes h]; exact (valD_lt _ l rfl (by unfold okNum at h; simp only [Bool.and_eq_true] at h; exact h.2)).1⟩

end Go.Proofs.Ytkcacdlgmapjjaa
