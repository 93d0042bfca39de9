/-
  Package attr's reading of numbers: the question that readWords asks of each word; readList.
-/
import Derived.Test.YtbfdgflbflajdaaGreatDoorAttrSplit
import Derived.Test.YtbfdgflbflajdaaGreatDoorAttrTxt2
import Derived.Test.YtbfdgflbflajdaaGreatDoorGG
import Derived.Test.YtbfdgflbflajdaaGreatDoorGK
namespace Go.Proofs.YtbfdgflbflajdaaGreatDoor
open Go.RowKit

/-- a truth's cell. -/
def RB (w : World) (R : Nat) (b : Bool) : Prop := w.heap[R]? = some (.cells #[.bool b] 4 (0, 0))
theorem RB.cell {w : World} {R : Nat} {b : Bool} (h : RB w R b) : w.cell? ⟨R, 0, none⟩ = some (.bool b) ∧ w.frozen? ⟨R, 0, none⟩ = false := by
  unfold RB at h
  constructor <;> simp [World.cell?, World.frozen?, h]
theorem RB.set {w : World} {R : Nat} {b : Bool} (h : RB w R b) (b' : Bool) : RB (w.setCell ⟨R, 0, none⟩ (.bool b')) R b' := heap_setCell_same w R 0 #[.bool b] _ (.bool b') h
theorem RB.lt {w : World} {R : Nat} {b : Bool} (h : RB w R b) : R < w.heap.size := (Array.getElem?_eq_some_iff.1 h).1
theorem RB.below {w w' : World} {R : Nat} {b : Bool} (h : RB w R b) (hb : Below w.heap.size w w') : RB w' R b := by
  unfold RB; rw [hb.block R h.lt]; exact h
theorem enters_rd : ∀ args w, (callFunc 79 args).run Tryz.prog w = .ok (.enter 79 args) w := fun args w => by kernel_rfl

set_option linter.unusedVariables false in
set_option maxRecDepth 100000 in
set_option maxHeartbeats 2000000 in
theorem readIt_any (l : List UInt8) (R : Nat) (b : Bool) (w : World) (h : RB w R b) (hs : l.length ≤ maxLen) :
    Calls Tryz.prog 79 #[.string ⟨l.toArray⟩, .pointer (some ⟨R, 0, none⟩)] w fun r w' => r = .returned (.int .i64 (numOf l)) ∧ RB w' R (b && okNum l) ∧ Kept [R] w w' := by
  obtain ⟨HC⟩ : Nonempty (Hid (Calls _ _ _ _ _)) := ⟨number_any ⟨l.toArray⟩ w (by show l.toArray.size ≤ maxLen; simpa using hs)⟩
  simp only at HC
  obtain ⟨c0, c1⟩ := h.cell
  have HP : Hid (∀ b', RB (w.setCell ⟨R, 0, none⟩ (.bool b')) R b' ∧ Kept [R] w (w.setCell ⟨R, 0, none⟩ (.bool b'))) := fun b' => ⟨h.set b', (Kept.refl _ _).setCell (Or.inl (by simp)) _⟩
  obtain ⟨n, hn⟩ : ∃ n, Hid (numOf l = n) := ⟨_, show _ = _ from rfl⟩
  obtain ⟨k, hk⟩ : ∃ n, Hid (okNum l = n) := ⟨_, show _ = _ from rfl⟩
  rw [show numOf l = n from hn.out, show okNum l = k from hk.out] at HC ⊢
  clear h hs
  cases b with
  | true =>
    go_enter Tryz.func79, Tryz.ntmps79
    go_wp2_with fail
    refine HC.out.mono ?_
    rintro e w1 ⟨rfl, rfl⟩
    go_wp2_with fail
    go_ret
    exact ⟨rfl, (HP.out k).1, (HP.out k).2⟩
  | false =>
    go_enter Tryz.func79, Tryz.ntmps79
    go_wp2_with fail
    refine HC.out.mono ?_
    rintro e w1 ⟨rfl, rfl⟩
    go_wp2_with fail
    go_ret
    exact ⟨rfl, (HP.out false).1, (HP.out false).2⟩

/-- a list's numbers, as package attr reads them (0 for what is none). -/
def unlM (c : UInt8) (l : List UInt8) : List Int := if l = [45] then [] else (parts c [] l).map numOf
theorem unlM_ok {c : UInt8} {l : List UInt8} (h : unlOk c l = true) : unlM c l = unlN c l := by
  unfold unlOk at h
  unfold unlM unlN
  split
  · rfl
  · rename_i hne
    rw [if_neg hne] at h
    unfold allNum at h
    rw [List.all_eq_true] at h
    apply List.map_congr_left
    intro x hx
    rw [numR_yes (h x hx), numOf_yes (h x hx)]
theorem all_take (L : List (List UInt8)) (k : Nat) (h : k < L.length) : (L.take (k + 1)).all okNum = ((L.take k).all okNum && okNum L[k]) := by
  rw [List.take_succ_eq_append_getElem h, List.all_append]; simp
theorem own_kept {w w' : World} {B R : Nat} {v : Value} {xs : List Value} {n : Nat} (h : w.ownsRow B 3 1 v n xs) (hk : Kept [R] w w') (hR : R < B) : w'.ownsRow B 3 1 v n xs := by
  refine ⟨h.1, ?_⟩
  rcases h.2 with h2 | ⟨g, cap, cur, rfl, h3, hg, r⟩
  · exact .inl h2
  · exact .inr ⟨g, cap, cur, rfl, h3, hk.heap hg (by simp; omega), r⟩

set_option linter.unusedVariables false in
set_option maxRecDepth 100000 in
set_option maxHeartbeats 4000000 in
theorem readList_any (l : List UInt8) (c : UInt8) (R : Nat) (b : Bool) (E : Nat → Addr) (m : Int) (w : World) (hE : AttrEnv w E m) (h : RB w R b) (hs : l.length < 4294967281) :
    Calls Tryz.prog 81 #[.string ⟨l.toArray⟩, .string ⟨#[c]⟩, .func (.func 79) #[] #[.pointer (some ⟨R, 0, none⟩)]] w fun r w' =>
      (∃ v, r = .returned v ∧ w'.ownsRow w.heap.size 3 1 v (unlM c l).length ((unlM c l).map intV)) ∧ RB w' R (b && unlOk c l) ∧ Kept [R] w w' := by
  by_cases h0 : l = [45]
  · subst h0
    have e1 : unlM c [45] = [] := rfl
    have e2 : unlOk c [45] = true := rfl
    rw [e1, e2, Bool.and_true]
    clear hE hs
    go_enter Tryz.func81, Tryz.ntmps81
    go_wp2_with fail
    go_ret
    exact ⟨⟨_, rfl, World.ownsRow_nil _ _ _ _⟩, h, Kept.refl _ _⟩
  · have he : ((⟨l.toArray⟩ : ByteArray).toList == [45]) = false := by rw [ByteArray.toList_eq, beq_eq_false_iff_ne]; simpa using h0
    have he' : (l == [45]) = false := by rw [beq_eq_false_iff_ne]; exact h0
    obtain ⟨e1, e2⟩ := split_all c l
    have hc := Tryz.strings_Split (aBytesL l) ⟨#[c]⟩ m w (by show l.toArray.size < _; simpa using hs) hE.max (Nat.le_refl 1)
    rw [e1, e2] at hc
    have eM : unlM c l = (parts c [] l).map numOf := by unfold unlM; rw [if_neg h0]
    have eO : unlOk c l = (parts c [] l).all okNum := by unfold unlOk; rw [if_neg h0]; rfl
    rw [eM, eO]
    have hpl := parts_length c [] l
    have HX : Hid (∀ x ∈ parts c [] l, x.length ≤ maxLen) := fun x hx => by
      have := parts_short c [] l x hx
      unfold maxLen
      simp at this
      omega
    obtain ⟨L, hL⟩ : ∃ L, Hid (parts c [] l = L) := ⟨_, show _ = _ from rfl⟩
    rw [show parts c [] l = L from hL.out] at hc hpl HX ⊢
    obtain ⟨C, hC⟩ : ∃ C : Array Value, Hid (((L.map aBytesL).map Value.string).toArray = C) := ⟨_, show _ = _ from rfl⟩
    rw [show ((L.map aBytesL).map Value.string).toArray = C from hC.out] at hc
    obtain ⟨HS⟩ : Nonempty (Hid (Calls _ _ _ _ _)) := ⟨hc⟩
    unfold aBytesL at HS
    obtain ⟨HCC⟩ : Nonempty (Hid (∀ k (h : k < L.length), C[k]? = some (.string ⟨L[k].toArray⟩))) := ⟨fun k hk => by rw [← hC.out]; simp [hk, aBytesL]⟩
    obtain ⟨B, hB⟩ : ∃ B, Hid (w.heap.size = B) := ⟨_, show _ = _ from rfl⟩
    obtain ⟨HR⟩ : Nonempty (Hid (RB w R b ∧ R < B)) := ⟨⟨h, by rw [← hB.out]; exact h.lt⟩⟩
    rw [show w.heap.size = B from hB.out] at HS ⊢
    obtain ⟨i0, hi, hz0, hz1, hz2⟩ := info_parts infoInt
    have heg := enters_rd
    have hL9 : L.length ≤ 4294967281 := by omega
    clear hE h e1 e2 hc eM eO hpl h0 hs
    go_enter Tryz.func81, Tryz.ntmps81
    go_wp2_with fail
    refine HS.out.mono ?_
    rintro e w1 ⟨rfl, rfl⟩
    clear HS
    obtain ⟨W1, hW1⟩ : ∃ W1, Hid (w.alloc (.cells C 9) = W1) := ⟨_, show _ = _ from rfl⟩
    rw [show w.alloc (.cells C 9) = W1 from hW1.out]
    obtain ⟨HW⟩ : Nonempty (Hid (W1.heap[B]? = some (.cells C 9 (0, 0)) ∧ Kept [R] w W1 ∧ RB W1 R b ∧ W1.heap.size = B + 1)) := ⟨by
      rw [← hW1.out, ← hB.out]
      exact ⟨Go.heap_alloc_new w _, Kept.of_below (below_alloc _ _), HR.out.1.below (below_alloc _ _), by simp⟩⟩
    clear hW1
    go_wp2_with fail
    go_loopw [7, 16] (fun v i wr => ∃ (k : Nat) (done : List Int), i = .int .i64 k ∧ k ≤ L.length ∧ Hid ((L.take k).map numOf = done) ∧ wr.ownsRow (B + 1) 3 1 v done.length (done.map intV) ∧ Hid (RB wr R (b && (L.take k).all okNum) ∧ Kept [R] W1 wr)) (fun _ i _ => L.length - (intOf i).toNat)
    case atStart => exact ⟨0, [], rfl, Nat.zero_le _, rfl, World.ownsRow_nil _ _ _ _, ⟨by simpa using HW.out.2.2.1, Kept.refl _ _⟩⟩
    case round =>
      obtain ⟨k, done, rfl, hkl, HD, hown, HK⟩ := hrel
      by_cases hlt : k < L.length
      · have q3 : (k : Int) < L.length := by omega
        have d0 : wr.cell? ⟨B, k, none⟩ = some (.string ⟨L[k].toArray⟩) := by
          have hb := HK.out.2.heap HW.out.1 (by have := HR.out.2; simp; omega)
          simp [World.cell?, hb, HCC.out k hlt]
        obtain ⟨x, hx⟩ : ∃ x, Hid (L[k] = x) := ⟨_, show _ = _ from rfl⟩
        rw [show L[k] = x from hx.out] at d0
        obtain ⟨HC⟩ : Nonempty (Hid (Calls _ _ _ _ _)) := ⟨readIt_any x R _ wr HK.out.1 (by have := HX.out L[k] (List.getElem_mem hlt); rw [hx.out] at this; exact this)⟩
        have hlen : done.length ≤ 1099511627776 := by rw [← HD.out]; simp; omega
        obtain ⟨HN⟩ : Nonempty (Hid ((L.take (k + 1)).map numOf = done ++ [numOf x] ∧ (L.take (k + 1)).all okNum = ((L.take k).all okNum && okNum x))) := ⟨⟨by
          rw [List.take_succ_eq_append_getElem hlt, List.map_append, HD.out, hx.out]; rfl, by rw [all_take L k hlt, hx.out]⟩⟩
        obtain ⟨n, hn⟩ : ∃ n, Hid (numOf x = n) := ⟨_, show _ = _ from rfl⟩
        rw [show numOf x = n from hn.out] at HC HN
        go_wp2_with fail
        refine HC.out.mono ?_
        rintro e w1 ⟨rfl, hr1, hk1⟩
        have hown1 := own_kept hown hk1 (by have := HR.out.2; omega)
        obtain ⟨HK1⟩ : Nonempty (Hid (RB w1 R (b && (L.take (k + 1)).all okNum) ∧ Kept [R] W1 w1 ∧ B + 1 ≤ w1.heap.size)) := ⟨⟨by rw [HN.out.2, ← Bool.and_assoc]; exact hr1, HK.out.2.trans hk1 (by simp), by
          have := HK.out.2.size; have := hk1.size; have := HW.out.2.2.2; omega⟩⟩
        clear hr1 hk1 hown d0 HC
        have hBw := HK1.out.2.2
        go_wp2_with (at_builtin; refine wpList_append_own _ rfl _ _ 22 rfl (B + 1) 3 i0 (.int .i64 0) 1 8 Tryz.underlying22 hi hz0 hz1 hz2 rfl (by decide) _ _ _ rfl (hown1.alloc _) ⟨w1.heap.size, 0, none⟩ 1 1 [intV n] rfl rfl ?c1 ?c2 ?c3 ?c4 ?c5 ?_)
        case c1 =>
          intro j u hj
          match j, hj with
          | 0, hj => simp at hj; subst hj; simp [Addr.add, intV]
        case c2 => intro u hu; simp at hu; subst hu; rfl
        case c3 => unfold maxLen; omega
        case c4 => omega
        case c5 => simp; omega
        intro v' w2 hown' hgrow _
        have R1 := rel_int (x := n) hBw hown1 (Below.refl (B + 1) w1) hown' hgrow
        obtain ⟨HK2⟩ : Nonempty (Hid (RB w2 R (b && (L.take (k + 1)).all okNum) ∧ Kept [R] W1 w2)) := ⟨by
          have hR := HR.out.2
          refine ⟨?_, ?_⟩
          · show w2.heap[R]? = _
            rw [R1.2.block R (by omega)]; exact HK1.out.1
          · have hz := HW.out.2.2.2
            exact ⟨R1.2.os.trans HK1.out.2.1.os, R1.2.tape.trans HK1.out.2.1.tape, R1.2.output.trans HK1.out.2.1.output, Nat.le_trans HK1.out.2.1.size R1.2.size, fun i hi hn => (R1.2.block i (by omega)).trans (HK1.out.2.1.block i hi hn)⟩⟩
        have R2 := R1.1
        clear hown' hgrow hown1 R1 hBw
        go_wp2_with fail
        go_roundw
        case rel => exact ⟨k + 1, done ++ [n], by go_num, by omega, HN.out.1, R2, HK2⟩
        case measure => simp [intOf]; omega
      · obtain rfl : k = L.length := by omega
        obtain ⟨HF⟩ : Nonempty (Hid (wr.ownsRow B 3 1 u7 (L.map numOf).length ((L.map numOf).map intV) ∧ RB wr R (b && L.all okNum) ∧ Kept [R] w wr)) := ⟨by
          have e := HD.out
          rw [List.take_length] at e
          rw [e]
          have hk := HK.out
          rw [List.take_length] at hk
          exact ⟨⟨hown.1, hown.2.imp id fun ⟨g, cap, cur, h1, h2, h3⟩ => ⟨g, cap, cur, h1, by omega, h3⟩⟩, hk.1, HW.out.2.1.trans hk.2 (by simp)⟩⟩
        clear hown
        go_wp2_with fail
        go_ret
        exact ⟨⟨_, rfl, HF.out.1⟩, HF.out.2.1, HF.out.2.2⟩
end Go.Proofs.YtbfdgflbflajdaaGreatDoor
