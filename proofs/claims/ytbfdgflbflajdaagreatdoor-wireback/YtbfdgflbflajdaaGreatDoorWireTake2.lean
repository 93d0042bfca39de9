/-
  Package wire's takeMore and take: what they return, and what the reading holds behind them.
-/
import Derived.Test.YtbfdgflbflajdaaGreatDoorWireTakeAdd
import Derived.Test.YtbfdgflbflajdaaGreatDoorWireRead0
namespace Go.Proofs.YtbfdgflbflajdaaGreatDoor
open Go.RowKit

theorem wcutSuffix_any (l : List UInt8) (w : World) (hs : l.length ≤ 100000) :
    Calls Tryz.prog 96 #[.string ⟨l.toArray⟩, .string ⟨#[10]⟩] w fun e w' => e = .returned (.tuple #[.string ⟨(Lib.trimSuffix l [10]).toArray⟩, .bool (Lib.hasSuffix l [10])]) ∧ w' = w := by
  have := Tryz.strings_CutSuffix ⟨l.toArray⟩ ⟨#[10]⟩ w (by simp [ByteArray.size]; omega)
  rw [show (ByteArray.mk l.toArray).data.toList = l by simp] at this
  exact this
theorem Took.mono {w w' : World} {R S : Nat} {o o' : Option Rg} {r : Ending} (h : Took w w' R S o r) (he : o = o') : Took w w' R S o' r := he ▸ h

set_option linter.unusedVariables false in
set_option linter.unusedSimpArgs false in
set_option maxRecDepth 100000 in
set_option maxHeartbeats 4000000 in
theorem takeMore_any (g : Rg) (l : List UInt8) (R S : Nat) (E : Nat → Addr) (m : Int) (w0 : World) (hEV : ∀ w', Fr R S w0 w' → WireEnv w' E m) (h : RdAt w0 R S g) (hs : l.length ≤ 100000) (hl : g.drops.length ≤ 1000000 ∧ g.adds.length ≤ 1000000) :
    Calls Tryz.prog 97 #[.pointer (some ⟨R, 0, none⟩), .string ⟨l.toArray⟩] w0 fun r w' => Took w0 w' R S (moreR g l) r := by
  obtain ⟨HTD⟩ : Nonempty (Hid (Calls _ _ _ _ _)) := ⟨takeDrop_any g (l.drop 2) R S E m w0 (hEV w0 (Fr.refl _ _ _)) h (by simp; omega) hl.1⟩
  obtain ⟨HTA⟩ : Nonempty (Hid (Calls _ _ _ _ _)) := ⟨takeAdd_any g (l.drop 2) R S E m w0 hEV h (by simp; omega) hl⟩
  obtain ⟨x, hx⟩ : ∃ x, Hid (l.drop 2 = x) := ⟨_, show _ = _ from rfl⟩
  obtain ⟨d, a, hR, -⟩ := h
  obtain ⟨x0, -⟩ := heap_cells5 hR
  have HD : Hid (moreR g l = if g.kind ≠ kNews then none else if Lib.hasPrefix l [45, 32] then dropR g x else if Lib.hasPrefix l [43, 32] then addR g x else none) := by
    show _ = _
    unfold moreR
    rw [hx.out]
  rw [show l.drop 2 = x from hx.out] at HTD HTA
  obtain ⟨o, ho⟩ : ∃ o, Hid (moreR g l = o) := ⟨_, show _ = _ from rfl⟩
  rw [show moreR g l = o from ho.out] at HD ⊢
  obtain ⟨dR, hdR⟩ : ∃ o, Hid (dropR g x = o) := ⟨_, show _ = _ from rfl⟩
  obtain ⟨aR, haR⟩ : ∃ o, Hid (addR g x = o) := ⟨_, show _ = _ from rfl⟩
  rw [show dropR g x = dR from hdR.out] at HTD HD
  rw [show addR g x = aR from haR.out] at HTA HD
  obtain ⟨K, hK⟩ : ∃ k, Hid (g.kind = k) := ⟨_, show _ = _ from rfl⟩
  rw [show g.kind = K from hK.out] at x0 HD
  clear hEV hR
  by_cases hn : K = kNews
  rotate_left
  · have HO : Hid (o = none) := by
      show _ = _
      rw [HD.out, if_pos hn]
    obtain ⟨a1, a2, a3⟩ := str_eqs hn
    unfold kNews at a1 a2 a3
    go_enter Tryz.func97, Tryz.ntmps97
    go_wp2_with fail
    go_ret
    refine Took.mono ?_ HO.out.symm
    exact ⟨rfl, Fr.refl _ _ _, fun g' hg => by cases hg⟩
  have h1 : K = [110, 101, 119, 115] := hn
  have HD2 : Hid (o = if Lib.hasPrefix l [45, 32] then dR else if Lib.hasPrefix l [43, 32] then aR else none) := by
    show _ = _
    rw [HD.out, if_neg (by simpa using hn)]
  subst h1
  clear HD hn hK
  obtain ⟨b1, hb1⟩ : ∃ b, Hid (Lib.hasPrefix l [45, 32] = b) := ⟨_, show _ = _ from rfl⟩
  obtain ⟨b2, hb2⟩ : ∃ b, Hid (Lib.hasPrefix l [43, 32] = b) := ⟨_, show _ = _ from rfl⟩
  have HP1 := wcutPrefix_any l [45, 32] ⟨#[45, 32]⟩ rfl
  have HP2 := wcutPrefix_any l [43, 32] ⟨#[43, 32]⟩ rfl
  rw [show Lib.hasPrefix l [45, 32] = b1 from hb1.out] at HP1 HD2
  rw [show Lib.hasPrefix l [43, 32] = b2 from hb2.out] at HP2 HD2
  obtain ⟨HC1⟩ : Nonempty (Hid (∀ w, Calls _ _ _ _ _)) := ⟨HP1⟩
  obtain ⟨HC2⟩ : Nonempty (Hid (∀ w, Calls _ _ _ _ _)) := ⟨HP2⟩
  clear HP1 HP2
  cases b1 with
  | true =>
    have HO : Hid (dR = o) := by
      show _ = _
      rw [HD2.out]; rfl
    have hT : Lib.trimPrefix l [45, 32] = x := by unfold Lib.trimPrefix; rw [if_pos hb1.out]; exact hx.out
    rw [hT] at HC1
    clear hT HD2
    go_enter Tryz.func97, Tryz.ntmps97
    go_wp2_with fail
    refine (HC1.out _).mono ?_
    rintro e w1 ⟨rfl, rfl⟩
    go_wp2_with fail
    refine HTD.out.mono ?_
    rintro e w2 ht
    obtain ⟨rfl, h2, h3⟩ := ht
    obtain ⟨HT⟩ : Nonempty (Hid (Took w1 w2 R S dR (.returned (.bool dR.isSome)))) := ⟨⟨rfl, h2, h3⟩⟩
    clear h2 h3
    go_wp2_with fail
    go_ret
    exact HT.out.mono HO.out
  | false =>
    have HD3 : Hid (o = if b2 = true then aR else none) := by
      show _ = _
      rw [HD2.out]; rfl
    clear HD2
    cases b2 with
    | true =>
      have HO : Hid (aR = o) := by
        show _ = _
        rw [HD3.out]; rfl
      have hT : Lib.trimPrefix l [43, 32] = x := by unfold Lib.trimPrefix; rw [if_pos hb2.out]; exact hx.out
      rw [hT] at HC2
      clear hT HD3
      go_enter Tryz.func97, Tryz.ntmps97
      go_wp2_with fail
      refine (HC1.out _).mono ?_
      rintro e w1 ⟨rfl, rfl⟩
      go_wp2_with fail
      refine (HC2.out _).mono ?_
      rintro e w2 ⟨rfl, rfl⟩
      go_wp2_with fail
      refine HTA.out.mono ?_
      rintro e w3 ht
      obtain ⟨rfl, h2, h3⟩ := ht
      obtain ⟨HT⟩ : Nonempty (Hid (Took w2 w3 R S aR (.returned (.bool aR.isSome)))) := ⟨⟨rfl, h2, h3⟩⟩
      clear h2 h3
      go_wp2_with fail
      go_ret
      exact HT.out.mono HO.out
    | false =>
      have HO : Hid (none = o) := by
        show _ = _
        rw [HD3.out]; rfl
      clear HD3
      go_enter Tryz.func97, Tryz.ntmps97
      go_wp2_with fail
      refine (HC1.out _).mono ?_
      rintro e w1 ⟨rfl, rfl⟩
      go_wp2_with fail
      refine (HC2.out _).mono ?_
      rintro e w1 ⟨rfl, rfl⟩
      go_wp2_with fail
      go_ret
      refine Took.mono ?_ HO.out
      exact ⟨rfl, Fr.refl _ _ _, fun g' hg => by cases hg⟩
set_option linter.unusedVariables false in
/-- the message of the reading is laid anew. -/
theorem rdAt_head {w : World} {R S : Nat} {g : Rg} (h : RdAt w R S g) (k : List UInt8) (n : Int) :
    RdAt ((((w.setCell ⟨R, 0, none⟩ (.string ⟨k.toArray⟩)).setCell ⟨R, 1, none⟩ (.int .i64 n)).setCell ⟨R, 2, none⟩ (.slice none 0 0)).setCell ⟨R, 3, none⟩ (.slice none 0 0)) R S ⟨k, n, [], [], g.added⟩ ∧
    Fr R S w ((((w.setCell ⟨R, 0, none⟩ (.string ⟨k.toArray⟩)).setCell ⟨R, 1, none⟩ (.int .i64 n)).setCell ⟨R, 2, none⟩ (.slice none 0 0)).setCell ⟨R, 3, none⟩ (.slice none 0 0)) := by
  obtain ⟨d, a, hR, hd, ha, hRS, hS⟩ := h
  refine ⟨⟨.slice none 0 0, .slice none 0 0, ?_, World.ownsRow_nil _ _ _ _, ownRo_nil _ _ _, hRS, by simpa [World.setCell] using hS⟩, fr_set (fr_set (fr_set (fr_set (Fr.refl _ _ _) 0 _) 1 _) 2 _) 3 _⟩
  have h1 := heap_setCell_same w R 0 _ _ (.string ⟨k.toArray⟩) hR
  have h2 := heap_setCell_same _ R 1 _ _ (.int .i64 n) h1
  have h3 := heap_setCell_same _ R 2 _ _ (.slice none 0 0) h2
  have h4 := heap_setCell_same _ R 3 _ _ (.slice none 0 0) h3
  simpa using h4
set_option linter.unusedVariables false in
set_option linter.unusedSimpArgs false in
set_option maxRecDepth 100000 in
set_option maxHeartbeats 4000000 in
theorem take_any (g : Rg) (k : Nat) (l : List UInt8) (R S : Nat) (E : Nat → Addr) (m : Int) (w0 : World) (hEV : ∀ w', Fr R S w0 w' → WireEnv w' E m) (h : RdAt w0 R S g) (hs : l.length ≤ 100000) (hl : g.drops.length ≤ 1000000 ∧ g.adds.length ≤ 1000000) :
    Calls Tryz.prog 67 #[.pointer (some ⟨R, 0, none⟩), .int .i64 (k : Int), .string ⟨l.toArray⟩] w0 fun r w' => Took w0 w' R S (stepR g k l) r := by
  obtain ⟨HCS⟩ : Nonempty (Hid (Calls _ _ _ _ _)) := ⟨wcutSuffix_any l w0 hs⟩
  obtain ⟨HTM⟩ : Nonempty (Hid (Calls _ _ _ _ _)) := ⟨takeMore_any g (l.take (l.length - 1)) R S E m w0 hEV h (by simp; omega) hl⟩
  obtain ⟨HRH⟩ : Nonempty (Hid (Calls _ _ _ _ _)) := ⟨readHead_any (l.take (l.length - 1)) w0 (by simp; omega)⟩
  obtain ⟨o, ho⟩ : ∃ o, Hid (stepR g k l = o) := ⟨_, show _ = _ from rfl⟩
  rw [show stepR g k l = o from ho.out]
  obtain ⟨b1, hb1⟩ : ∃ b, Hid (Lib.hasSuffix l [10] = b) := ⟨_, show _ = _ from rfl⟩
  rw [show Lib.hasSuffix l [10] = b1 from hb1.out] at HCS
  have HD : Hid (o = if b1 = true then lineR g k (l.take (l.length - 1)) else none) := by
    show _ = _
    rw [← ho.out, ← hb1.out]; rfl
  obtain ⟨HH⟩ : Nonempty (Hid (RdAt w0 R S g)) := ⟨h⟩
  clear hEV h
  cases b1 with
  | false =>
    have HO : Hid (none = o) := by
      show _ = _
      rw [HD.out]; rfl
    clear HD
    go_enter Tryz.func67, Tryz.ntmps67
    go_wp2_with fail
    refine HCS.out.mono ?_
    rintro e w1 ⟨rfl, rfl⟩
    go_wp2_with fail
    go_ret
    refine Took.mono ?_ HO.out
    exact ⟨rfl, Fr.refl _ _ _, fun g' hg => by cases hg⟩
  | true =>
    have hT : Lib.trimSuffix l [10] = l.take (l.length - 1) := by unfold Lib.trimSuffix; rw [if_pos hb1.out]; rfl
    rw [hT] at HCS
    obtain ⟨x, hx⟩ : ∃ x, Hid (l.take (l.length - 1) = x) := ⟨_, show _ = _ from rfl⟩
    rw [show l.take (l.length - 1) = x from hx.out] at HCS HTM HRH HD
    clear hT
    cases k with
    | zero =>
      obtain ⟨hk, hhk⟩ : ∃ y, Hid ((headR x).1 = y) := ⟨_, show _ = _ from rfl⟩
      obtain ⟨hn, hhn⟩ : ∃ y, Hid ((headR x).2.1 = y) := ⟨_, show _ = _ from rfl⟩
      obtain ⟨hb, hhb⟩ : ∃ y, Hid ((headR x).2.2 = y) := ⟨_, show _ = _ from rfl⟩
      rw [show (headR x).1 = hk from hhk.out, show (headR x).2.1 = hn from hhn.out, show (headR x).2.2 = hb from hhb.out] at HRH
      have HO : Hid ((if hb = true then some ⟨hk, hn, [], [], g.added⟩ else none) = o) := by
        show _ = _
        rw [HD.out, if_pos rfl]
        unfold lineR
        rw [if_pos rfl, hhk.out, hhn.out, hhb.out]
      clear HD
      go_enter Tryz.func67, Tryz.ntmps67
      go_wp2_with fail
      refine HCS.out.mono ?_
      rintro e w1 ⟨rfl, rfl⟩
      go_wp2_with fail
      refine HRH.out.mono ?_
      rintro e w2 ⟨rfl, hb2⟩
      obtain ⟨HB2⟩ : Nonempty (Hid (Below w1.heap.size w1 w2)) := ⟨hb2⟩
      have h9 := HH.out.below HB2.out
      obtain ⟨HF⟩ : Nonempty (Hid _) := ⟨rdAt_head h9 hk hn⟩
      obtain ⟨HF1⟩ : Nonempty (Hid (Fr R S w1 w2)) := ⟨Fr.of_below hb2 (by obtain ⟨_, _, _, _, _, _, h⟩ := HH.out; exact h)⟩
      obtain ⟨d, a, hR, -⟩ := h9
      obtain ⟨x0, x1, x2, x3, -, xf⟩ := heap_cells5 hR
      have xf0 := xf 0
      have xf1 := xf 1
      have xf2 := xf 2
      have xf3 := xf 3
      clear hb2 hR xf
      go_wp2_with fail
      go_ret
      refine Took.mono ?_ HO.out
      cases hb with
      | true => exact ⟨rfl, HF1.out.trans HF.out.2, fun g' hg => by
          simp only [if_true, Option.some.injEq] at hg
          subst hg
          exact HF.out.1⟩
      | false => exact ⟨rfl, HF1.out.trans HF.out.2, fun g' hg => by simp at hg⟩
    | succ k =>
      have hk : decide (0 < ((k + 1 : Nat) : Int)) = true := decide_eq_true (by omega)
      have HO : Hid (moreR g x = o) := by
        show _ = _
        rw [HD.out, if_pos rfl]
        unfold lineR
        rw [if_neg (by omega)]
      obtain ⟨o2, ho2⟩ : ∃ o, Hid (moreR g x = o) := ⟨_, show _ = _ from rfl⟩
      rw [show moreR g x = o2 from ho2.out] at HTM HO
      clear HD
      go_enter Tryz.func67, Tryz.ntmps67
      go_wp2_with fail
      refine HCS.out.mono ?_
      rintro e w1 ⟨rfl, rfl⟩
      go_wp2_with fail
      refine HTM.out.mono ?_
      rintro e w2 ht
      obtain ⟨rfl, h2, h3⟩ := ht
      obtain ⟨HT⟩ : Nonempty (Hid (Took w1 w2 R S o2 (.returned (.bool o2.isSome)))) := ⟨⟨rfl, h2, h3⟩⟩
      clear h2 h3
      go_wp2_with fail
      go_ret
      exact HT.out.mono HO.out
end Go.Proofs.YtbfdgflbflajdaaGreatDoor
