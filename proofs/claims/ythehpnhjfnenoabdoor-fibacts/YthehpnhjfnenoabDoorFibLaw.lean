/-
  Tables of a law's own: what stands beside one that is written; the closed fact ahead of each law (tabled).
-/
import Derived.Test.YthehpnhjfnenoabDoorFibDrop
namespace Go.Proofs.YthehpnhjfnenoabDoor
open Go.RowKit

/-- what a law stands in: nothing that was there has turned; the errors lie where they lay. -/
structure In0 (B : Nat) (E : Nat → Addr) (w wr : World) : Prop where
  below : Below B w wr
  size : B ≤ wr.heap.size
  ng : 12 ≤ B
  errs : FibErrs wr E
theorem In0.next {B : Nat} {E : Nat → Addr} {w wr w' : World} (h : In0 B E w wr) (hb : Below B wr w') : In0 B E w w' := by
  have hz := hb.size
  have hs := h.size
  have hn := h.ng
  refine ⟨h.below.trans hb, by omega, h.ng, ?_⟩
  have hc : ∀ g v, g < 12 → wr.cell? ⟨g, 0, none⟩ = some v → w'.cell? ⟨g, 0, none⟩ = some v := fun g v hg hv => by rw [hb.cell (p := ⟨g, 0, none⟩) (show g < B by omega)]; exact hv
  exact ⟨hc _ _ (by decide) h.errs.bound, hc _ _ (by decide) h.errs.shape, hc _ _ (by decide) h.errs.gone, hc _ _ (by decide) h.errs.full⟩
theorem In0.all {B : Nat} {E : Nat → Addr} {w wr w' : World} (h : In0 B E w wr) (hb : Below wr.heap.size wr w') : In0 B E w w' := h.next (hb.mono h.size)
/-- a table of a law's own. -/
def Own (B : Nat) (w : World) (tb : Nat) (L : List Ent) (mo : Int) (F : List Nat) : Prop := IsTab w tb L mo F ∧ ∀ b ∈ F, B ≤ b
theorem Own.beside {B : Nat} {w w' : World} {tb : Nat} {L : List Ent} {mo : Int} {F G : List Nat} (h : Own B w tb L mo F) (hk : Kept G w w') (hd : ∀ b ∈ F, b ∉ G) : Own B w' tb L mo F := ⟨h.1.kept hk hd, h.2⟩
theorem Own.all {B : Nat} {w w' : World} {tb : Nat} {L : List Ent} {mo : Int} {F : List Nat} (h : Own B w tb L mo F) (hb : Below w.heap.size w w') : Own B w' tb L mo F := ⟨h.1.below hb, h.2⟩
theorem own_new {B : Nat} {w w' : World} {k : Int} (h : IsTab w' w.heap.size [] k [w.heap.size]) (hB : B ≤ w.heap.size) : Own B w' w.heap.size [] k [w.heap.size] := ⟨h, by simpa using hB⟩
/-- behind Put or Drop. -/
theorem PutPost.law {mo : Int} {F : List Nat} {tb : Nat} {v : Value} {L L' : List Ent} {w w' w0 : World} {r : Ending} {B : Nat} {E : Nat → Addr} (h : PutPost mo F tb v L' w r w') (hI : In0 B E w0 w) (ho : Own B w tb L mo F) :
    r = .returned v ∧ ∃ F', Own B w' tb L' mo F' ∧ In0 B E w0 w' ∧ Below B w w' ∧ Kept F w w' ∧ (∀ b ∈ F', b ∈ F ∨ w.heap.size ≤ b) := by
  obtain ⟨h1, F', h2, h3, h4⟩ := h
  have hb := h4.below hI.size ho.2
  refine ⟨h1, F', ⟨h2, fun b hm => ?_⟩, hI.next hb, hb, h4, h3⟩
  rcases h3 b hm with hm | hm
  · exact ho.2 b hm
  · have := hI.size; omega
theorem apart_next {w : World} {tb : Nat} {L : List Ent} {mo : Int} {F F' G : List Nat} {B : Nat} (hG : Own B w tb L mo G) (h : ∀ b ∈ F', b ∈ F ∨ w.heap.size ≤ b) (hd : ∀ b ∈ G, b ∉ F) : ∀ b ∈ G, b ∉ F' := fun b hb hm => by
  rcases h b hm with h | h
  · exact hd b hb h
  · have := hG.1.lt b hb; omega
theorem apart_symm {F G : List Nat} (h : ∀ b ∈ F, b ∉ G) : ∀ b ∈ G, b ∉ F := fun b hb hm => h b hm hb

def tabL : List Ent := [((0, 0), 1), ((256, 24), 2)]
theorem tab_steps : putC [] 5 0 0 = 0 ∧ putS [] 5 0 0 1 = [((0, 0), 1)] ∧ putC [((0, 0), 1)] 5 256 24 = 0 ∧ putS [((0, 0), 1)] 5 256 24 2 = tabL := by
  refine ⟨by decide, by decide, by decide, by decide⟩
theorem tab_found : Longest tabL 300 (some ((256, 24), 2)) ∧ Longest tabL 7 (some ((0, 0), 1)) := by
  refine ⟨⟨by simp [tabL], by decide, ?_⟩, ⟨by simp [tabL], by decide, ?_⟩⟩
  · intro y hy _
    simp [tabL] at hy
    rcases hy with rfl | rfl <;> decide
  · intro y hy hh
    simp [tabL] at hy
    rcases hy with rfl | rfl
    · decide
    · exact absurd hh (by decide)
set_option linter.unusedVariables false in
set_option linter.unusedSimpArgs false in
set_option maxRecDepth 100000 in
set_option maxHeartbeats 1000000 in
theorem tabled_any (E : Nat → Addr) (w : World) (hE : FibErrs w E) (hw : 12 ≤ w.heap.size) :
    Calls Tryd.prog 13 #[] w fun r w' => r = .returned (.bool true) ∧ Below w.heap.size w w' := by
  obtain ⟨HI⟩ : Nonempty (Hid (In0 w.heap.size E w w)) := ⟨⟨Below.refl _ _, Nat.le_refl _, hw, hE⟩⟩
  clear hE
  obtain ⟨B, hB⟩ : ∃ b, Hid (w.heap.size = b) := ⟨_, show _ = _ from rfl⟩
  obtain ⟨HC⟩ : Nonempty (Hid (Calls _ _ _ _ _)) := ⟨new_any 5 5 (show min (max (5 : Int) 0) 60 = 5 by decide) w⟩
  rw [show w.heap.size = B from hB.out] at HI HC hw ⊢
  go_enter Tryd.func13, Tryd.ntmps13
  go_wp2_with fail
  refine HC.out.mono ?_
  clear HC
  rintro e w1 ⟨rfl, ht1, hb1⟩
  obtain ⟨HI1⟩ : Nonempty (Hid (In0 B E w w1 ∧ Own B w1 B [] 5 [B])) := ⟨⟨HI.out.next hb1, ht1, by simp⟩⟩
  obtain ⟨HC⟩ : Nonempty (Hid (Calls _ _ _ _ _)) := ⟨put_any B [] 5 0 0 1 [B] E w1 ht1 HI1.out.1.errs (by simp; exact hw) (Nat.le_trans hw HI1.out.1.size)⟩
  rw [tab_steps.1, tab_steps.2.1] at HC
  clear ht1 hb1
  go_wp2_with fail
  refine HC.out.mono ?_
  clear HC
  intro e w2 hp
  obtain ⟨rfl, F2, ho2, hi2, -, -, -⟩ := hp.law HI1.out.1 HI1.out.2
  simp only [ev]
  obtain ⟨HI2⟩ : Nonempty (Hid (In0 B E w w2 ∧ Own B w2 B [((0, 0), 1)] 5 F2)) := ⟨⟨hi2, ho2⟩⟩
  obtain ⟨HC⟩ : Nonempty (Hid (Calls _ _ _ _ _)) := ⟨put_any B [((0, 0), 1)] 5 256 24 2 F2 E w2 ho2.1 hi2.errs (fun b hb => Nat.le_trans hw (ho2.2 b hb)) (Nat.le_trans hw hi2.size)⟩
  rw [tab_steps.2.2.1, tab_steps.2.2.2] at HC
  clear ho2 hi2 hp HI1
  go_wp2_with fail
  refine HC.out.mono ?_
  clear HC
  intro e w3 hp
  obtain ⟨rfl, F3, ho3, hi3, -, -, -⟩ := hp.law HI2.out.1 HI2.out.2
  simp only [ev]
  obtain ⟨HI3⟩ : Nonempty (Hid (In0 B E w w3 ∧ Own B w3 B tabL 5 F3)) := ⟨⟨hi3, ho3⟩⟩
  obtain ⟨HC⟩ : Nonempty (Hid (Calls _ _ _ _ _)) := ⟨find_any B tabL 5 300 F3 E w3 ho3.1 hi3.errs⟩
  clear ho3 hi3 hp HI2
  go_wp2_with fail
  refine HC.out.mono ?_
  clear HC
  rintro e w4 ⟨o, hl, rfl, hb4⟩
  obtain rfl := longest_unique HI3.out.2.1.srt HI3.out.2.1.rts hl tab_found.1
  simp only [accE, Option.getD_some, Option.isSome_some]
  have hbx := (below_alloc w4 (.cells #[.int .i64 256, .int .i64 24] 36))
  obtain ⟨HI4⟩ : Nonempty (Hid (In0 B E w (w4.alloc (.cells #[.int .i64 256, .int .i64 24] 36)) ∧ Own B (w4.alloc (.cells #[.int .i64 256, .int .i64 24] 36)) B tabL 5 F3)) := ⟨⟨(HI3.out.1.all hb4).all hbx, (HI3.out.2.all hb4).all hbx⟩⟩
  obtain ⟨HC⟩ : Nonempty (Hid (Calls _ _ _ _ _)) := ⟨find_any B tabL 5 7 F3 E _ HI4.out.2.1 HI4.out.1.errs⟩
  obtain ⟨a0, a1⟩ := box_at w4 (.int .i64 256) (.int .i64 24) 36
  clear hl hb4 HI3
  go_wp2_with fail
  refine HC.out.mono ?_
  clear HC
  rintro e w5 ⟨o, hl, rfl, hb5⟩
  obtain rfl := longest_unique HI4.out.2.1.srt HI4.out.2.1.rts hl tab_found.2
  have b1 := cell_kept hb5 a1
  have hsz : w4.heap.size < w5.heap.size := cell_lt' b1
  have hin := HI4.out.1.all hb5
  obtain ⟨HF⟩ : Nonempty (Hid (Below B w w5 ∧ B ≤ w5.heap.size)) := ⟨⟨hin.below, hin.size⟩⟩
  simp only [accE, Option.getD_some, Option.isSome_some]
  clear hl hb5 hin a0 a1 hbx
  go_wp2_with fail
  go_ret
  exact ⟨rfl, HF.out.1.alloc HF.out.2 _⟩
end Go.Proofs.YthehpnhjfnenoabDoor
