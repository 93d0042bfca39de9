/-
  The document's unlist: the numbers of a text, or none.
-/
import Derived.Test.YtkebcfjofeoehaaGreatDoorAttrNums
namespace Go.Proofs.YtkebcfjofeoehaaGreatDoor
open Go.RowKit

theorem parts_short (c : UInt8) (cur r : List UInt8) : ∀ x ∈ parts c cur r, x.length ≤ cur.length + r.length := by
  induction r generalizing cur with
  | nil => intro x hx; simp [parts] at hx; subst hx; simp
  | cons y r ih =>
    intro x hx
    unfold parts at hx
    split at hx
    · rcases List.mem_cons.1 hx with rfl | hx
      · simp
      · have := ih [] x hx; simp at this ⊢; omega
    · have := ih (cur ++ [y]) x hx; simp at this ⊢; omega
/-- a list's text says numbers (or none). -/
def unlOk (c : UInt8) (l : List UInt8) : Bool := if l = [45] then true else allNum (parts c [] l)
/-- its numbers. -/
def unlN (c : UInt8) (l : List UInt8) : List Int := if l = [45] then [] else (parts c [] l).map numR
/-- what a row of numbers that was read is: its numbers where they are all right, else none. -/
def ReadRow (w : World) (B : Nat) (v : Value) (ok : Bool) (N : List Int) : Prop :=
  (ok = true ∧ w.ownsRow B 3 1 v N.length (N.map intV)) ∨ (ok = false ∧ v = .slice none 0 0)
theorem ReadRow.below {w w' : World} {B : Nat} {v : Value} {ok : Bool} {N : List Int} (h : ReadRow w B v ok N) (hb : Below w.heap.size w w') : ReadRow w' B v ok N := by
  rcases h with ⟨a, b⟩ | ⟨a, b⟩
  · refine .inl ⟨a, b.1, ?_⟩
    rcases b.2 with h2 | ⟨g, cap, cur, rfl, h3, hg, r⟩
    · exact .inl h2
    · exact .inr ⟨g, cap, cur, rfl, h3, by rw [hb.block g (b.lt g rfl).2]; exact hg, r⟩
  · exact .inr ⟨a, b⟩

set_option linter.unusedVariables false in
set_option maxRecDepth 100000 in
set_option maxHeartbeats 4000000 in
theorem rUnlist_any (s : ByteArray) (c : UInt8) (w : World) (hs : s.size < 4294967281) :
    Calls Tryz.prog 51 #[.string s, .int .u8 (c.toNat : Int)] w fun e w' => (∃ v, e = .returned (.tuple #[v, .bool (unlOk c s.data.toList)]) ∧ ReadRow w' w.heap.size v (unlOk c s.data.toList) (unlN c s.data.toList)) ∧ Below w.heap.size w w' := by
  by_cases h : s = ⟨#[45]⟩
  · subst h
    go_enter Tryz.func51, Tryz.ntmps51
    go_wp2_with fail
    exact bodyPost_ret (v := .tuple #[.slice none 0 0, .bool true]) (by simp [results, Tryz.results51, go_sem]) rfl ⟨⟨.slice none 0 0, rfl, .inl ⟨rfl, World.ownsRow_nil _ _ _ _⟩⟩, Below.refl _ _⟩
  · have hl : ¬ s.data.toList = [45] := by
      intro e
      apply h
      obtain ⟨⟨l⟩⟩ := s
      simp only at e
      subst e
      rfl
    have he : (s.toList == [45]) = false := by rw [ByteArray.toList_eq, beq_eq_false_iff_ne]; exact hl
    have e1 : unlOk c s.data.toList = allNum (parts c [] s.data.toList) := by unfold unlOk; rw [if_neg hl]
    have e2 : unlN c s.data.toList = (parts c [] s.data.toList).map numR := by unfold unlN; rw [if_neg hl]
    rw [e1, e2]
    obtain ⟨HC⟩ : Nonempty (Hid (Calls _ _ _ _ _)) := ⟨rCut_any s c w hs⟩
    have hp := parts_length c [] s.data.toList
    rw [len_data] at hp
    have HX : Hid (∀ x ∈ parts c [] s.data.toList, x.length ≤ maxLen) := fun x hx => by
      have := parts_short c [] s.data.toList x hx
      rw [len_data] at this
      unfold maxLen
      simp at this
      omega
    obtain ⟨L, hL⟩ : ∃ L, Hid (parts c [] s.data.toList = L) := ⟨_, show _ = _ from rfl⟩
    rw [show parts c [] s.data.toList = L from hL.out] at HC hp HX ⊢
    clear e1 e2 hl h
    go_enter Tryz.func51, Tryz.ntmps51
    go_wp2_with fail
    refine HC.out.mono ?_
    rintro e w1 ⟨⟨v, rfl, hown⟩, hb1⟩
    obtain ⟨q, cap, rfl, -, -, hq⟩ := own_strs hown
    obtain ⟨HN⟩ : Nonempty (Hid (Calls _ _ _ _ _)) := ⟨rNumbersOf_any q L _ cap w1 hq rfl (by omega) HX.out⟩
    obtain ⟨HB1⟩ : Nonempty (Hid (Below w.heap.size w w1)) := ⟨hb1⟩
    clear HC hown hq hb1
    go_wp2_with fail
    refine HN.out.mono ?_
    rintro e w2 ⟨⟨v, rfl, hv⟩, hb2⟩
    obtain ⟨HV⟩ : Nonempty (Hid (ReadRow w2 w.heap.size v (allNum L) (L.map numR) ∧ Below w.heap.size w w2)) := ⟨⟨by
      rcases hv with ⟨a, b⟩ | ⟨a, b⟩
      · refine .inl ⟨a, ?_⟩
        rw [List.length_map]
        exact ⟨b.1, b.2.imp id fun ⟨g, cap, cur, h1, h2, h3⟩ => ⟨g, cap, cur, h1, Nat.le_trans HB1.out.size h2, h3⟩⟩
      · exact .inr ⟨a, b⟩, HB1.out.trans (hb2.mono HB1.out.size)⟩⟩
    obtain ⟨ok, hok⟩ : ∃ b, Hid (allNum L = b) := ⟨_, show _ = _ from rfl⟩
    rw [show allNum L = ok from hok.out] at HV ⊢
    clear HN hv hb2
    go_wp2_with fail
    exact bodyPost_ret (v := .tuple #[v, .bool ok]) (by simp [results, Tryz.results51, go_sem]) rfl ⟨⟨v, by rw [hok.out], by rw [hok.out]; exact HV.out.1⟩, HV.out.2⟩
end Go.Proofs.YtkebcfjofeoehaaGreatDoor
