/-
  From the row's condition (the listed variables read as their initialisers lay them) to what the walks ask: each error of package api is an *errors.errorString, no two are one, and their blocks bear no frozen range.
-/
import Derived.Test.YthehpnhjfnenoaaDoorRows
import Derived.Test.YthehpnhjfnenoaaDoorCode
import Derived.Test.YthehpnhjfnenoaaDoorLaidErrs
import Derived.LaidLaws
import Derived.LaidHandle
import Derived.Stop.LaidErr
namespace Go.Proofs.YthehpnhjfnenoaaDoor
open Go.RowKit Go.ChangeShapes

theorem etNamed : Tryd.prog.globalNamed "errors.errorType" = some 9 := by kernel_rfl
theorem rtType : (Tryd.prog.cutTypes.find? (·.1 == "internal/reflectlite.rtype")).map (·.2) = some 117 := by kernel_rfl
theorem oneRow : ((List.range 219).filter fun t => Tryd.prog.rowNamed t [101, 114, 114, 111, 114]) = [25] := by kernel_rfl
theorem typesSize : Tryd.prog.types.size = 219 := by kernel_rfl
theorem handle_of {W : World} {l : List (String × DataW Unit)} (h : handlesMet Tryd.prog l W) (hm : ("errors.errorType", Rows.laid_errors_errorType) ∈ l) : W.cell? ⟨9, 0, none⟩ = some (.iface 117 (.agg #[.pointer (some ⟨16, 25, none⟩)])) := by
  obtain ⟨name, u, ty, e1, e2, e3, e4, e5⟩ := h _ hm
  have en : name = [101, 114, 114, 111, 114] := (Option.some.inj e1).symm
  subst en
  obtain rfl := Option.some.inj (rtType.symm.trans e2)
  have hm : ty ∈ (List.range 219).filter fun t => Tryd.prog.rowNamed t [101, 114, 114, 111, 114] := List.mem_filter.2 ⟨List.mem_range.2 (by rw [← typesSize]; exact e3), e4⟩
  rw [oneRow] at hm
  obtain rfl := List.mem_singleton.1 hm
  have hh : typeHandle Tryd.prog 25 = .pointer (some ⟨16, 25, none⟩) := by kernel_rfl
  rw [hh] at e5
  simpa using World.var?_cell etNamed e5 0

/-- the nine errors, by name and text. -/
def nine : List (String × List UInt8) := [("herepath/api.ErrText", [104, 101, 114, 101, 112, 97, 116, 104, 58, 32, 116, 101, 120, 116]), ("herepath/api.ErrBound", [104, 101, 114, 101, 112, 97, 116, 104, 58, 32, 98, 111, 117, 110, 100]), ("herepath/api.ErrShape", [104, 101, 114, 101, 112, 97, 116, 104, 58, 32, 115, 104, 97, 112, 101]), ("herepath/api.ErrKind", [104, 101, 114, 101, 112, 97, 116, 104, 58, 32, 107, 105, 110, 100]), ("herepath/api.ErrNone", [104, 101, 114, 101, 112, 97, 116, 104, 58, 32, 110, 111, 110, 101]), ("herepath/api.ErrExist", [104, 101, 114, 101, 112, 97, 116, 104, 58, 32, 101, 120, 105, 115, 116]), ("herepath/api.ErrFull", [104, 101, 114, 101, 112, 97, 116, 104, 58, 32, 102, 117, 108, 108]), ("herepath/api.ErrOrder", [104, 101, 114, 101, 112, 97, 116, 104, 58, 32, 111, 114, 100, 101, 114]), ("herepath/api.ErrLoop", [104, 101, 114, 101, 112, 97, 116, 104, 58, 32, 108, 111, 111, 112])]

theorem gn0 : Tryd.prog.globalNamed "herepath/api.ErrText" = some 0 := by kernel_rfl
theorem gn1 : Tryd.prog.globalNamed "herepath/api.ErrBound" = some 1 := by kernel_rfl
theorem gn2 : Tryd.prog.globalNamed "herepath/api.ErrShape" = some 2 := by kernel_rfl
theorem gn3 : Tryd.prog.globalNamed "herepath/api.ErrKind" = some 3 := by kernel_rfl
theorem gn4 : Tryd.prog.globalNamed "herepath/api.ErrNone" = some 4 := by kernel_rfl
theorem gn5 : Tryd.prog.globalNamed "herepath/api.ErrExist" = some 5 := by kernel_rfl
theorem gn6 : Tryd.prog.globalNamed "herepath/api.ErrFull" = some 6 := by kernel_rfl
theorem gn7 : Tryd.prog.globalNamed "herepath/api.ErrOrder" = some 7 := by kernel_rfl
theorem gn8 : Tryd.prog.globalNamed "herepath/api.ErrLoop" = some 8 := by kernel_rfl
theorem gt0 : (Tryd.prog.globals[0]?).map (·.type) = some 25 := by kernel_rfl
theorem gt1 : (Tryd.prog.globals[1]?).map (·.type) = some 25 := by kernel_rfl
theorem gt2 : (Tryd.prog.globals[2]?).map (·.type) = some 25 := by kernel_rfl
theorem gt3 : (Tryd.prog.globals[3]?).map (·.type) = some 25 := by kernel_rfl
theorem gt4 : (Tryd.prog.globals[4]?).map (·.type) = some 25 := by kernel_rfl
theorem gt5 : (Tryd.prog.globals[5]?).map (·.type) = some 25 := by kernel_rfl
theorem gt6 : (Tryd.prog.globals[6]?).map (·.type) = some 25 := by kernel_rfl
theorem gt7 : (Tryd.prog.globals[7]?).map (·.type) = some 25 := by kernel_rfl
theorem gt8 : (Tryd.prog.globals[8]?).map (·.type) = some 25 := by kernel_rfl

theorem nine_named : ∀ x ∈ nine, ∃ g, Tryd.prog.globalNamed x.1 = some g ∧ (Tryd.prog.globals[g]?).map (·.type) = some 25 := by
  intro x hx
  simp only [nine, List.mem_cons, List.mem_nil_iff, or_false] at hx
  rcases hx with rfl | rfl | rfl | rfl | rfl | rfl | rfl | rfl | rfl
  · exact ⟨_, gn0, gt0⟩
  · exact ⟨_, gn1, gt1⟩
  · exact ⟨_, gn2, gt2⟩
  · exact ⟨_, gn3, gt3⟩
  · exact ⟨_, gn4, gt4⟩
  · exact ⟨_, gn5, gt5⟩
  · exact ⟨_, gn6, gt6⟩
  · exact ⟨_, gn7, gt7⟩
  · exact ⟨_, gn8, gt8⟩

theorem errsLaid_of {W : World} (rest : List (String × DataW Unit)) (h : laidMet Tryd.prog (nine.map (fun x => (x.1, errD x.2)) ++ rest) W)
    (het : W.cell? ⟨9, 0, none⟩ = some (.iface 117 (.agg #[.pointer (some ⟨16, 25, none⟩)]))) : ∃ a, ErrsLaid W a := by
  obtain ⟨ps, hv, hnd, hrows⟩ := h
  obtain ⟨az, hlen, hnda, -, hget⟩ := errs_of_laid nine rest ps nine_named hv hnd hrows
  have hl : az.length = 9 := hlen
  have key : ∀ (i : Nat) (x : String × List UInt8) (g : Nat), nine[i]? = some x → Tryd.prog.globalNamed x.1 = some g → W.cell? ⟨g, 0, none⟩ = some (.iface 72 (.pointer (some (az.getD i default)))) := by
    intro i x g hx hg
    obtain ⟨a, ha, hva, -⟩ := hget i x hx
    have : az.getD i default = a := by rw [List.getD_eq_getElem?_getD, ha]; rfl
    rw [this]
    simpa using World.var?_cell hg hva 0
  refine ⟨fun i => az.getD i default, key 0 _ _ rfl gn0, key 1 _ _ rfl gn1, key 2 _ _ rfl gn2, key 3 _ _ rfl gn3, key 4 _ _ rfl gn4, key 5 _ _ rfl gn5, key 6 _ _ rfl gn6, key 7 _ _ rfl gn7, key 8 _ _ rfl gn8, het, ?_, ?_⟩
  · intro i hi
    have : ∃ x, nine[i]? = some x := ⟨nine[i]'(by simpa [nine] using hi), List.getElem?_eq_getElem _⟩
    obtain ⟨x, hx⟩ := this
    obtain ⟨a, ha, -, c, t, hb⟩ := hget i x hx
    have e : az.getD i default = a := by rw [List.getD_eq_getElem?_getD, ha]; rfl
    exact ⟨c, t, by simp only [e]; exact hb⟩
  · intro i j hi hj hij he
    have e1 : az.getD i default = az[i]'(by omega) := by simp [List.getD_eq_getElem?_getD, List.getElem?_eq_getElem (show i < az.length by omega)]
    have e2 : az.getD j default = az[j]'(by omega) := by simp [List.getD_eq_getElem?_getD, List.getElem?_eq_getElem (show j < az.length by omega)]
    simp only [e1, e2] at he
    have hp := List.pairwise_iff_getElem.1 hnda
    rcases Nat.lt_or_gt_of_ne hij with h | h
    · exact hp i j (by omega) (by omega) h he
    · exact hp j i (by omega) (by omega) h he.symm
end Go.Proofs.YthehpnhjfnenoaaDoor
