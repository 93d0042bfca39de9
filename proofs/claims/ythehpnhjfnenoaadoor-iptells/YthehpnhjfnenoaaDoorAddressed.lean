/-
  herepathlaw1.addressed: the closed fact ahead of chapter 1's laws: it returns true.
-/
import Derived.Test.YthehpnhjfnenoaaDoorTxt
namespace Go.Proofs.YthehpnhjfnenoaaDoor
open Go.RowKit

theorem rdP_ten : rdP ⟨#[49, 48, 46, 49, 46, 48, 46, 48, 47, 49, 54]⟩ = (167837696, 16, 0) := by
  have h := rdP_txt 167837696 16 rt_ten
  rw [txt_ten] at h
  exact h

set_option maxRecDepth 100000 in
set_option maxHeartbeats 1000000 in
theorem addressed_any (et eb es : Addr) (m : Int) (w : World) (h : IpEnv w et eb es m) :
    Calls Tryd.prog 12 #[] w fun e w' => e = .returned (.bool true) ∧ Below w.heap.size w w' := by
  have HR : Hid (Calls Tryd.prog 21 #[.string ⟨#[49, 48, 46, 49, 46, 48, 46, 48, 47, 49, 54]⟩] w fun e w' => e = .returned (.tuple #[.agg #[.int .i64 167837696, .int .i64 16], .nilIface]) ∧ Below w.heap.size w w') := by
    have := read_any ⟨#[49, 48, 46, 49, 46, 48, 46, 48, 47, 49, 54]⟩ et eb es m w h (by decide)
    rw [rdP_ten] at this
    exact this
  go_enter Tryd.func12, Tryd.ntmps12
  go_wp2_with fail
  refine HR.out.mono ?_
  rintro e w1 ⟨rfl, hb1⟩
  have hE1 := h.below hb1
  go_wp2_with fail
  have HT : Hid (Calls Tryd.prog 22 #[.agg #[.int .i64 167837696, .int .i64 16]] (w1.alloc (.cells #[.int .i64 167837696, .int .i64 16] 36)) fun e w' => e = .returned (.string ⟨#[49, 48, 46, 49, 46, 48, 46, 48, 47, 49, 54]⟩) ∧ Below (w1.alloc (.cells #[.int .i64 167837696, .int .i64 16] 36)).heap.size (w1.alloc (.cells #[.int .i64 167837696, .int .i64 16] 36)) w') := by
    have := text_any 167837696 16 et eb es m _ (hE1.alloc (.cells #[.int .i64 167837696, .int .i64 16] 36)) rt_ten
    rw [txt_ten] at this
    exact this
  refine HT.out.mono ?_
  rintro e w2 ⟨rfl, hb2⟩
  obtain ⟨hc2, hf2⟩ := bcell hb2
  have HE2 : Hid (IpEnv w2 et eb es m) := (hE1.alloc _).below hb2
  have HB2 : Hid (Below w.heap.size w w2) := hb1.trans (((below_alloc w1 _).trans (hb2.mono (by simp))).mono hb1.size)
  go_wp2_with fail
  refine (has_any 167837696 16 167837773 et eb es _ HE2.out.errs).mono ?_
  rw [has_ten]
  rintro e w3 ⟨rfl, hb3⟩
  go_wp2
  go_ret
  exact ⟨rfl, HB2.out.trans (hb3.mono HB2.out.size)⟩
end Go.Proofs.YthehpnhjfnenoaaDoor
