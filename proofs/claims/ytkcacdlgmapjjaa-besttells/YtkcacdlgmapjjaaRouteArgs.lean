/-
  Routes of an argument: their lists' values are read as they came; one's own copy of routes.
-/
import Derived.Test.YtkcacdlgmapjjaaRouteRow
import Derived.Test.YtkcacdlgmapjjaaOwnAttrW
import Derived.Deep.Cut
namespace Go.Proofs.Ytkcacdlgmapjjaa
open Go.RowKit

/-- a route of an argument: its lists' values are read as they came. -/
def RouteArg (w : World) (b o : Nat) (r : Ro) : Prop :=
  ∃ p cp q cq, w.cell? ⟨b, o, none⟩ = some (.int .i64 r.dst.1) ∧ w.cell? ⟨b, o + 1, none⟩ = some (.int .i64 r.dst.2)
    ∧ w.cell? ⟨b, o + 2, none⟩ = some (.slice p r.att.path.length cp) ∧ w.cell? ⟨b, o + 3, none⟩ = some (.int .i64 r.att.pref) ∧ w.cell? ⟨b, o + 4, none⟩ = some (.int .i64 r.att.med) ∧ w.cell? ⟨b, o + 5, none⟩ = some (.int .i64 r.att.org) ∧ w.cell? ⟨b, o + 6, none⟩ = some (.slice q r.att.tags.length cq)
    ∧ w.cell? ⟨b, o + 7, none⟩ = some (.int .i64 r.frm) ∧ Ints w p r.att.path ∧ Ints w q r.att.tags ∧ KindW p r.att.path.length cp ∧ KindW q r.att.tags.length cq
def RoutesArg (w : World) (p : Option Addr) (L : List Ro) : Prop := ∀ i (h : i < L.length), ∃ b o, p = some ⟨b, o, none⟩ ∧ RouteArg w b (o + i * 8) L[i]
theorem RoutesArg.routes {w : World} {p : Option Addr} {L : List Ro} (h : RoutesArg w p L) : Routes w p L := fun i hi => by
  obtain ⟨b, o, e, p1, c1, q1, d1, a0, a1, a2, a3, a4, a5, a6, a7, i1, i2, -⟩ := h i hi
  exact ⟨b, o, e, p1, c1, q1, d1, a0, a1, a2, a3, a4, a5, a6, a7, i1, i2⟩
theorem RoutesArg.below {w w' : World} {p : Option Addr} {L : List Ro} (h : RoutesArg w p L) (hb : Below w.heap.size w w') : RoutesArg w' p L := fun i hi => by
  obtain ⟨b, o, e, p1, c1, q1, d1, a0, a1, a2, a3, a4, a5, a6, a7, i1, i2, k1, k2⟩ := h i hi
  exact ⟨b, o, e, p1, c1, q1, d1, cell_kept hb a0, cell_kept hb a1, cell_kept hb a2, cell_kept hb a3, cell_kept hb a4, cell_kept hb a5, cell_kept hb a6, cell_kept hb a7, i1.below hb, i2.below hb, k1, k2⟩
end Go.Proofs.Ytkcacdlgmapjjaa
