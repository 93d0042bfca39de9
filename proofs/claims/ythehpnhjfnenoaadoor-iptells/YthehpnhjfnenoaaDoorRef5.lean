/-
  The document's answer, chapter 1 (herepathref1): AddrText, PrefixText: what each returns.
-/
import Derived.Test.YthehpnhjfnenoaaDoorRef4
import Derived.Test.YthehpnhjfnenoaaDoorRef3
import Derived.Test.YthehpnhjfnenoaaDoorTxt
namespace Go.Proofs.YthehpnhjfnenoaaDoor
open Go.RowKit

set_option linter.unusedVariables false in
set_option maxRecDepth 100000 in
set_option maxHeartbeats 4000000 in
theorem rAddrText_any (a : Int) (w : World) (hA : isA a = true) :
    Calls Tryd.prog 26 #[.int .i64 a] w fun e w' => e = .returned (.string ⟨(txt4 a).toArray⟩) ∧ Below w.heap.size w w' := by
  obtain ⟨a0, a1⟩ := (isA_iff a).1 hA
  have b1 : 0 ≤ a / 16777216 ∧ a / 16777216 ≤ 1000 := by omega
  have b2 : 0 ≤ a / 65536 % 256 ∧ a / 65536 % 256 ≤ 1000 := by omega
  have b3 : 0 ≤ a / 256 % 256 ∧ a / 256 % 256 ≤ 1000 := by omega
  have b4 : 0 ≤ a % 256 ∧ a % 256 ≤ 1000 := by omega
  obtain ⟨l1, e1⟩ : ∃ l, Hid (Lib.itoa (a / 16777216) = l) := ⟨_, rfl⟩
  obtain ⟨l2, e2⟩ : ∃ l, Hid (Lib.itoa (a / 65536 % 256) = l) := ⟨_, rfl⟩
  obtain ⟨l3, e3⟩ : ∃ l, Hid (Lib.itoa (a / 256 % 256) = l) := ⟨_, rfl⟩
  obtain ⟨l4, e4⟩ : ∃ l, Hid (Lib.itoa (a % 256) = l) := ⟨_, rfl⟩
  have k1 : l1.length ≤ 21 := by rw [← e1.out]; exact itoa_len _ b1.1 b1.2
  have k2 : l2.length ≤ 21 := by rw [← e2.out]; exact itoa_len _ b2.1 b2.2
  have k3 : l3.length ≤ 21 := by rw [← e3.out]; exact itoa_len _ b3.1 b3.2
  have k4 : l4.length ≤ 21 := by rw [← e4.out]; exact itoa_len _ b4.1 b4.2
  have ht : txt4 a = l1 ++ 46 :: (l2 ++ 46 :: (l3 ++ 46 :: l4)) := by unfold txt4; rw [e1.out, e2.out, e3.out, e4.out]
  obtain ⟨m1, f1⟩ : ∃ l, Hid (l1 ++ [46] = l) := ⟨_, show _ = _ from rfl⟩
  obtain ⟨m2, f2⟩ : ∃ l, Hid (m1 ++ l2 = l) := ⟨_, show _ = _ from rfl⟩
  obtain ⟨m3, f3⟩ : ∃ l, Hid (m2 ++ [46] = l) := ⟨_, show _ = _ from rfl⟩
  obtain ⟨m4, f4⟩ : ∃ l, Hid (m3 ++ l3 = l) := ⟨_, show _ = _ from rfl⟩
  obtain ⟨m5, f5⟩ : ∃ l, Hid (m4 ++ [46] = l) := ⟨_, show _ = _ from rfl⟩
  obtain ⟨m6, f6⟩ : ∃ l, Hid (m5 ++ l4 = l) := ⟨_, show _ = _ from rfl⟩
  have n1 : m1.length ≤ 22 := by rw [← f1.out]; simp; omega
  have n2 : m2.length ≤ 43 := by rw [← f2.out]; simp; omega
  have n3 : m3.length ≤ 44 := by rw [← f3.out]; simp; omega
  have n4 : m4.length ≤ 65 := by rw [← f4.out]; simp; omega
  have n5 : m5.length ≤ 66 := by rw [← f5.out]; simp; omega
  have q1 : ∀ w, (Op.stringOp .add ⟨l1.toArray⟩ ⟨#[46]⟩).run Tryd.prog w = .ok (.string ⟨m1.toArray⟩) w := fun w => by rw [← f1.out]; exact run_string_add_lists w l1 [46] (by omega) (by simp)
  have q2 : ∀ w, (Op.stringOp .add ⟨m1.toArray⟩ ⟨l2.toArray⟩).run Tryd.prog w = .ok (.string ⟨m2.toArray⟩) w := fun w => by rw [← f2.out]; exact run_string_add_lists w m1 l2 (by omega) (by omega)
  have q3 : ∀ w, (Op.stringOp .add ⟨m2.toArray⟩ ⟨#[46]⟩).run Tryd.prog w = .ok (.string ⟨m3.toArray⟩) w := fun w => by rw [← f3.out]; exact run_string_add_lists w m2 [46] (by omega) (by simp)
  have q4 : ∀ w, (Op.stringOp .add ⟨m3.toArray⟩ ⟨l3.toArray⟩).run Tryd.prog w = .ok (.string ⟨m4.toArray⟩) w := fun w => by rw [← f4.out]; exact run_string_add_lists w m3 l3 (by omega) (by omega)
  have q5 : ∀ w, (Op.stringOp .add ⟨m4.toArray⟩ ⟨#[46]⟩).run Tryd.prog w = .ok (.string ⟨m5.toArray⟩) w := fun w => by rw [← f5.out]; exact run_string_add_lists w m4 [46] (by omega) (by simp)
  have q6 : ∀ w, (Op.stringOp .add ⟨m5.toArray⟩ ⟨l4.toArray⟩).run Tryd.prog w = .ok (.string ⟨m6.toArray⟩) w := fun w => by rw [← f6.out]; exact run_string_add_lists w m5 l4 (by omega) (by omega)
  rw [show txt4 a = m6 by rw [ht, ← f6.out, ← f5.out, ← f4.out, ← f3.out, ← f2.out, ← f1.out]; simp]
  clear ht k1 k2 k3 k4 n1 n2 n3 n4 n5
  have d1 : a.tdiv 16777216 = a / 16777216 := Int.tdiv_eq_ediv_of_nonneg a0
  have d2 : a.tdiv 65536 = a / 65536 := Int.tdiv_eq_ediv_of_nonneg a0
  have d3 : a.tdiv 256 = a / 256 := Int.tdiv_eq_ediv_of_nonneg a0
  have d4 : a.tmod 256 = a % 256 := Int.tmod_eq_emod_of_nonneg a0
  have d5 : (a / 65536).tmod 256 = a / 65536 % 256 := Int.tmod_eq_emod_of_nonneg (by omega)
  have d6 : (a / 256).tmod 256 = a / 256 % 256 := Int.tmod_eq_emod_of_nonneg (by omega)
  obtain ⟨x1, g1⟩ : ∃ x, a / 16777216 = x := ⟨_, rfl⟩
  obtain ⟨y2, g2⟩ : ∃ x, a / 65536 = x := ⟨_, rfl⟩
  obtain ⟨y3, g3⟩ : ∃ x, a / 256 = x := ⟨_, rfl⟩
  obtain ⟨x4, g4⟩ : ∃ x, a % 256 = x := ⟨_, rfl⟩
  rw [g1] at e1 b1 d1
  rw [g2] at e2 b2 d2 d5
  rw [g3] at e3 b3 d3 d6
  rw [g4] at e4 b4 d4
  obtain ⟨x2, g5⟩ : ∃ x, y2 % 256 = x := ⟨_, rfl⟩
  obtain ⟨x3, g6⟩ : ∃ x, y3 % 256 = x := ⟨_, rfl⟩
  rw [g5] at e2 b2 d5
  rw [g6] at e3 b3 d6
  have w1 : IntKind.i64.wrap x1 = x1 := wrapi _ (by omega)
  have w2 : IntKind.i64.wrap y2 = y2 := wrapi _ (by omega)
  have w3 : IntKind.i64.wrap y3 = y3 := wrapi _ (by omega)
  go_enter Tryd.func26, Tryd.ntmps26
  go_wp2_with (go_at_call 57; refine (rIsAddr_any _ _).mono ?_; rintro e w0 ⟨rfl, hw0⟩; subst hw0)
  refine (rDecimal_at _ x1 l1 (show _ = _ from rfl) e1 b1.1 b1.2 _).mono ?_
  rintro e v1 ⟨rfl, hb1⟩
  go_wp2_with fail
  refine (rDecimal_at _ x2 l2 (show _ = _ from rfl) e2 b2.1 b2.2 _).mono ?_
  rintro e v2 ⟨rfl, hb2⟩
  have hb2 := hb1.trans (hb2.mono hb1.size)
  clear hb1
  go_wp2_with fail
  refine (rDecimal_at _ x3 l3 (show _ = _ from rfl) e3 b3.1 b3.2 _).mono ?_
  rintro e v3 ⟨rfl, hb3⟩
  have hb3 := hb2.trans (hb3.mono hb2.size)
  clear hb2
  go_wp2_with fail
  refine (rDecimal_at _ x4 l4 (show _ = _ from rfl) e4 b4.1 b4.2 _).mono ?_
  rintro e v4 ⟨rfl, hb4⟩
  have hb4 := hb3.trans (hb4.mono hb3.size)
  clear hb3
  go_wp2_with fail
  go_ret
  exact ⟨rfl, hb4⟩
theorem rAddrText_none (a : Int) (w : World) (hA : isA a = false) :
    Calls Tryd.prog 26 #[.int .i64 a] w fun e w' => e = .returned (.string ⟨#[]⟩) ∧ Below w.heap.size w w' := by
  go_enter Tryd.func26, Tryd.ntmps26
  go_wp2_with (go_at_call 57; refine (rIsAddr_any _ _).mono ?_; rintro e w0 ⟨rfl, hw0⟩; subst hw0)
  go_ret
  exact ⟨rfl, Below.refl _ _⟩
theorem rAddrText_at (a : Int) (l : List UInt8) (w : World) (hA : isA a = true) (hl : Hid (txt4 a = l)) :
    Calls Tryd.prog 26 #[.int .i64 a] w fun e w' => e = .returned (.string ⟨l.toArray⟩) ∧ Below w.heap.size w w' := by
  rw [← hl.out]
  exact rAddrText_any a w hA

set_option maxHeartbeats 2000000 in
theorem rPrefixText_any (a n : Int) (w : World) (hr : rt a n = true) :
    Calls Tryd.prog 29 #[.agg #[.int .i64 a, .int .i64 n]] w fun e w' => e = .returned (.string ⟨(txtP a n).toArray⟩) ∧ Below w.heap.size w w' := by
  have hA := rt_isA hr
  have hl := rt_len hr
  have hc := chkC_rt' hr
  obtain ⟨l1, e1⟩ : ∃ l, Hid (txt4 a = l) := ⟨_, rfl⟩
  obtain ⟨l2, e2⟩ : ∃ l, Hid (Lib.itoa n = l) := ⟨_, rfl⟩
  have ht : txtP a n = l1 ++ 47 :: l2 := by unfold txtP; rw [e1.out, e2.out]
  have k2 : l2.length ≤ 21 := by rw [← e2.out]; exact itoa_len _ (by omega) (by omega)
  have k1 : l1.length ≤ 100 := by
    rw [← e1.out]
    obtain ⟨a0, a1⟩ := (isA_iff a).1 hA
    have g1 := itoa_len (a / 16777216) (by omega) (by omega)
    have g2 := itoa_len (a / 65536 % 256) (by omega) (by omega)
    have g3 := itoa_len (a / 256 % 256) (by omega) (by omega)
    have g4 := itoa_len (a % 256) (by omega) (by omega)
    unfold txt4
    simp only [List.length_append, List.length_cons]
    omega
  obtain ⟨l3, e3⟩ : ∃ l, Hid (l1 ++ [47] = l) := ⟨l1 ++ [47], show _ = _ from rfl⟩
  obtain ⟨l4, e4⟩ : ∃ l, Hid (l3 ++ l2 = l) := ⟨l3 ++ l2, show _ = _ from rfl⟩
  have q1 : ∀ w, (Op.stringOp .add ⟨l1.toArray⟩ ⟨#[47]⟩).run Tryd.prog w = .ok (.string ⟨l3.toArray⟩) w := fun w => by rw [← e3.out]; exact run_string_add_lists w l1 [47] (by omega) (by simp)
  have q2 : ∀ w, (Op.stringOp .add ⟨l3.toArray⟩ ⟨l2.toArray⟩).run Tryd.prog w = .ok (.string ⟨l4.toArray⟩) w := fun w => by rw [← e4.out]; exact run_string_add_lists w l3 l2 (by rw [← e3.out]; simp; omega) (by omega)
  have ht' : l1 ++ 47 :: l2 = l4 := by rw [← e4.out, ← e3.out]; simp
  rw [ht, ht']; clear ht ht' k1 k2
  obtain ⟨c0, c1⟩ := box_at w (.int .i64 a) (.int .i64 n) 36
  have hb0 : Below w.heap.size w (w.alloc (.cells #[.int .i64 a, .int .i64 n] 36)) := below_alloc _ _
  go_enter Tryd.func29, Tryd.ntmps29
  go_wp2_with fail
  refine (rPrefixError_at _ _ _ hc _).mono ?_
  rintro e w1 ⟨rfl, hb1⟩
  have c0 := cell_kept hb1 c0
  have c1 := cell_kept hb1 c1
  have HB := hb0.trans (hb1.mono (by simp))
  clear hb1 hb0
  go_wp2_with fail
  go_region_held3 (fun w' => w'.cell? ⟨w.heap.size, 0, none⟩ = some (.int .i64 a) ∧ w'.cell? ⟨w.heap.size, 1, none⟩ = some (.int .i64 n) ∧ Below w1.heap.size w1 w') (first | exact ⟨cell_kept hbk c0, cell_kept hbk c1, hbk⟩ | exact ⟨c0, c1, (Below.refl _ _).drew⟩)
    (first | (go_at_call 26; refine (Calls.since (W := w1) ?_ (rAddrText_at a l1 _ hA e1)).mono ?_; (apply held3; assumption); rintro e w2 ⟨rfl, hbk⟩) | (go_at_call 58; refine (Calls.since (W := w1) ?_ (rDecimal_at n n l2 (show _ = _ from rfl) e2 (by omega) (by omega) _)).mono ?_; (apply held3; assumption); rintro e w2 ⟨rfl, hbk⟩))
  go_wp2
  go_ret
  exact ⟨rfl, HB.trans (hbk.mono HB.size)⟩
theorem rPrefixText_none (a n : Int) (w : World) (hr : rt a n = false) :
    Calls Tryd.prog 29 #[.agg #[.int .i64 a, .int .i64 n]] w fun e w' => e = .returned (.string ⟨#[]⟩) ∧ Below w.heap.size w w' := by
  obtain ⟨c, hc, hd⟩ := chkC_bad hr
  have hb0 : Below w.heap.size w (w.alloc (.cells #[.int .i64 a, .int .i64 n] 36)) := below_alloc _ _
  go_enter Tryd.func29, Tryd.ntmps29
  go_wp2_with fail
  refine (rPrefixError_at _ _ _ hc _).mono ?_
  rintro e w1 ⟨rfl, hb1⟩
  go_wp2_with fail
  go_ret
  exact ⟨rfl, hb0.trans (hb1.mono (by simp))⟩
end Go.Proofs.YthehpnhjfnenoaaDoor
