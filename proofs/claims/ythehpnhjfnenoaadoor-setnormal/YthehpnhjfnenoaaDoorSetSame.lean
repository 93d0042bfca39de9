/-
  The closed fact of package set: what they return.
-/
import Derived.Test.YthehpnhjfnenoaaDoorSet11
import Derived.Test.YthehpnhjfnenoaaDoorSamePref
import Derived.BigQuiet
import Derived.Deep.QuietTactic
namespace Go.Proofs.YthehpnhjfnenoaaDoor
open Go.RowKit

theorem set24 : NP [(0, 24)] ∧ ∀ x, inP [(0, 24)] x ↔ inPB [(128, 25), (0, 25)] x = true := by
  have e24 : pw 24 = 256 := by decide
  have e25 : pw 25 = 128 := by decide
  refine ⟨⟨by decide, by simp, by simp, trivial⟩, fun x => ?_⟩
  rw [inPB_iff]
  unfold inP
  simp only [List.mem_cons, List.not_mem_nil, or_false, exists_eq_or_imp, exists_eq_left, e24, e25]
  omega
theorem right2 : RightTo [(128, 25), (0, 25)] 2 := rights_to (fun p hp => by
  simp only [List.mem_cons, List.not_mem_nil, or_false] at hp
  rcases hp with rfl | rfl <;> decide)
set_option maxRecDepth 100000 in
set_option maxHeartbeats 4000000 in
theorem setted_any (et eb es : Addr) (w : World) (hE : SetEnv w et eb es) :
    Calls Tryd.prog 35 #[] w fun e w' => e = .returned (.bool true) ∧ Below w.heap.size w w' := by
  have hba := below_alloc w (.cells #[.int .i64 128, .int .i64 25, .int .i64 0, .int .i64 25] 36)
  have hp : Pairs (w.alloc (.cells #[.int .i64 128, .int .i64 25, .int .i64 0, .int .i64 25] 36)) (some ⟨w.heap.size, 0, none⟩) [(128, 25), (0, 25)] := by
    intro i hi
    simp at hi
    have h2 : i = 0 ∨ i = 1 := by omega
    rcases h2 with rfl | rfl
    · exact ⟨_, _, rfl, by simp, by simp⟩
    · exact ⟨_, _, rfl, by simp, by simp⟩
  obtain ⟨HN⟩ : Nonempty (Hid (Calls _ _ _ _ _)) := ⟨norm_any [(128, 25), (0, 25)] 2 right2 (some ⟨w.heap.size, 0, none⟩) 2 et eb es _ (hE.below hba) hp (by simp)⟩
  clear hE hp
  go_enter Tryd.func35, Tryd.ntmps35
  go_wp2_with fail
  refine HN.out.mono ?_
  rintro e w1 ⟨⟨-, L, v, rfl, hG⟩ | ⟨v, rfl, h, -⟩, hb1⟩
  · have hL : L = [(0, 24)] := np_unique L _ hG.np set24.1 (fun x => by rw [hG.has, set24.2])
    subst hL
    obtain ⟨q, c, rfl, h1, h2, hrow⟩ := hG.row
    obtain ⟨b, o, rfl, c0, c1⟩ := hrow 0 (by simp)
    have hb := hba.trans (hb1.mono hba.size)
    simp only [Nat.zero_mul, Nat.add_zero, List.getElem_cons_zero] at c0 c1
    clear hG hrow HN hb1 hba
    go_wp2
    go_ret
    exact ⟨rfl, hb⟩
  · simp at h
end Go.Proofs.YthehpnhjfnenoaaDoor
