/-
  Routes in memory.
-/
import Derived.Test.YtkcacdlgmapjjaaAttrRef1
namespace Go.Proofs.Ytkcacdlgmapjjaa
open Go.RowKit

/-- a route. -/
structure Ro where
  dst : Int × Int
  att : At
  frm : Int
/-- a route of nothing. -/
def ro0 : Ro := ⟨(0, 0), ⟨[], 0, 0, 0, []⟩, 0⟩
/-- a route's eight cells, at an address. -/
def RouteAt (w : World) (b o : Nat) (r : Ro) : Prop :=
  ∃ p cp q cq, w.cell? ⟨b, o, none⟩ = some (.int .i64 r.dst.1) ∧ w.cell? ⟨b, o + 1, none⟩ = some (.int .i64 r.dst.2)
    ∧ w.cell? ⟨b, o + 2, none⟩ = some (.slice p r.att.path.length cp) ∧ w.cell? ⟨b, o + 3, none⟩ = some (.int .i64 r.att.pref) ∧ w.cell? ⟨b, o + 4, none⟩ = some (.int .i64 r.att.med) ∧ w.cell? ⟨b, o + 5, none⟩ = some (.int .i64 r.att.org) ∧ w.cell? ⟨b, o + 6, none⟩ = some (.slice q r.att.tags.length cq)
    ∧ w.cell? ⟨b, o + 7, none⟩ = some (.int .i64 r.frm) ∧ Ints w p r.att.path ∧ Ints w q r.att.tags
/-- what a slice at p holds: routes. -/
def Routes (w : World) (p : Option Addr) (L : List Ro) : Prop :=
  ∀ i (h : i < L.length), ∃ b o, p = some ⟨b, o, none⟩ ∧ RouteAt w b (o + i * 8) L[i]
theorem RouteAt.below {w w' : World} {b o : Nat} {r : Ro} (h : RouteAt w b o r) (hb : Below w.heap.size w w') : RouteAt w' b o r := by
  obtain ⟨p, cp, q, cq, c0, c1, c2, c3, c4, c5, c6, c7, i1, i2⟩ := h
  exact ⟨p, cp, q, cq, cell_kept hb c0, cell_kept hb c1, cell_kept hb c2, cell_kept hb c3, cell_kept hb c4, cell_kept hb c5, cell_kept hb c6, cell_kept hb c7, i1.below hb, i2.below hb⟩
theorem Routes.below {w w' : World} {p : Option Addr} {L : List Ro} (h : Routes w p L) (hb : Below w.heap.size w w') : Routes w' p L := fun i hi => by
  obtain ⟨b, o, e, c⟩ := h i hi
  exact ⟨b, o, e, c.below hb⟩
theorem routes_nil (w : World) (p : Option Addr) : Routes w p [] := fun i hi => by simp at hi
/-- all attributes of these are of a size that the walk bears. -/
def Mod (L : List Ro) : Prop := ∀ r ∈ L, r.att.path.length ≤ 1000000 ∧ r.att.tags.length ≤ 1000000
end Go.Proofs.Ytkcacdlgmapjjaa
