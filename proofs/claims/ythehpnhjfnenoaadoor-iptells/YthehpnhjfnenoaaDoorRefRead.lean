/-
  The document's answer, chapter 1 (herepathref1): ReadAddr, ReadPrefix: what each returns, at every text shorter than 2 to the 32 bytes.
-/
import Derived.Test.YthehpnhjfnenoaaDoorRefCut
import Derived.Test.YthehpnhjfnenoaaDoorReadAddr
namespace Go.Proofs.YthehpnhjfnenoaaDoor
open Go.RowKit

def bytesL (l : List UInt8) : ByteArray := ⟨l.toArray⟩
/-- what ReadAddr comes to, off the words. -/
def rd4 (ps : List (List UInt8)) : Option Int := if ps.length = 4 then rdFold 0 (ps.map bytesL) else none

theorem own_cells {w : World} {B : Nat} {e : TypeId} {v : Value} {n : Nat} {xs : List Value} (h : w.ownsRow B e 1 v n xs) (hn : 0 < n) :
    ∃ g cap, v = .slice (some ⟨g, 0, none⟩) n cap ∧ n ≤ cap ∧ cap ≤ maxLen ∧ ∀ (k : Nat) (u : Value), xs[k]? = some u → w.cell? ⟨g, k, none⟩ = some u := by
  obtain ⟨g, cap, hv, h1, h2⟩ : ∃ g cap, v = .slice (some ⟨g, 0, none⟩) n cap ∧ n ≤ cap ∧ cap ≤ maxLen := by
    rcases h.2 with ⟨-, h0⟩ | ⟨g, cap, cur, hv, -, -, h1, h2, -, -⟩
    · omega
    · exact ⟨g, cap, hv, h1, h2⟩
  refine ⟨g, cap, hv, h1, h2, fun k u hk => ?_⟩
  have := h.cells (g := g) (by rw [hv]; rfl) k u hk
  by_cases h0 : k = 0
  · subst h0; simpa [Addr.add] using this
  · simpa [Addr.add, h0] using this
theorem parts_size (c : UInt8) (cur r x : List UInt8) (h : x ∈ parts c cur r) : x.length ≤ cur.length + r.length := by
  induction r generalizing cur with
  | nil => simp [parts] at h; subst h; simp
  | cons y r ih =>
    unfold parts at h
    split at h
    · rcases List.mem_cons.1 h with rfl | h
      · omega
      · have := ih [] h; simp at this ⊢; omega
    · have := ih _ h; simp at this ⊢; omega
theorem rNumberOf_at (x : List UInt8) (v : Int) (w : World) (hs : x.length < 4294967281) (hv : Hid (numR x = v)) :
    Calls Tryd.prog 56 #[strV x] w fun e w' => e = .returned (.int .i64 v) ∧ w' = w := by
  rw [← hv.out]
  have := rNumberOf_any (bytesL x) w (by show x.toArray.size ≤ maxLen; rw [List.size_toArray]; unfold maxLen; omega)
  exact this
theorem numR_bounds (l : List UInt8) : -1 ≤ numR l ∧ numR l ≤ 999999999 := by
  unfold numR
  split
  · rename_i h
    have h' := h
    unfold okNum at h'
    simp only [Bool.and_eq_true, decide_eq_true_eq] at h'
    have := valD_le l h'.1.1.2 h'.2
    omega
  · omega
theorem numR_good {l : List UInt8} {v : Int} (h : numR l = v) (h0 : 0 ≤ v) : okNum l = true ∧ numOf l = v := by
  cases hk : okNum l with
  | true => exact ⟨rfl, by rw [numOf_yes hk, ← numR_yes hk]; exact h⟩
  | false => rw [numR_not hk] at h; omega
theorem numR_bad {l : List UInt8} {v : Int} (h : numR l = v) (h0 : v < 0 ∨ 255 < v) : ¬ (okNum l = true ∧ numOf l ≤ 255) := by
  rintro ⟨hk, hn⟩
  rw [numR_yes hk, ← numOf_yes hk] at h
  have := numOf_bounds l
  omega

set_option linter.unusedVariables false in
set_option maxRecDepth 100000 in
set_option maxHeartbeats 4000000 in
theorem rReadAddr_any (s : ByteArray) (w : World) (hs : s.size < 4294967281) :
    Calls Tryd.prog 24 #[.string s] w fun e w' => (e = match rd4 (parts 46 [] s.data.toList) with | none => .returned (.tuple #[.int .i64 0, .bool false]) | some a => .returned (.tuple #[.int .i64 a, .bool true])) ∧ Below w.heap.size w w' := by
  have HS : Hid (Calls Tryd.prog 55 #[.string s, .int .u8 46] w fun e w' => (∃ v, e = .returned v ∧ w'.ownsRow w.heap.size 9 1 v (parts 46 [] s.data.toList).length ((parts 46 [] s.data.toList).map strV)) ∧ Below w.heap.size w w') := rCut_any s 46 w hs
  have hpl := parts_length 46 [] s.data.toList
  have HZ : Hid (∀ x ∈ parts 46 [] s.data.toList, x.length < 4294967281) := fun x hx => by
    have := parts_size 46 [] s.data.toList x hx
    rw [len_data] at this
    simp at this
    omega
  rw [len_data] at hpl
  obtain ⟨ps, hps⟩ : ∃ ps, Hid (parts 46 [] s.data.toList = ps) := ⟨_, show _ = _ from rfl⟩
  rw [show parts 46 [] s.data.toList = ps from hps.out] at HS HZ hpl ⊢
  by_cases h4 : ps.length = 4
  · have hrd : rd4 ps = rdFold 0 (ps.map bytesL) := by unfold rd4; rw [if_pos h4]
    rw [hrd]
    obtain ⟨R, hR⟩ : ∃ R, Hid ((match rdFold 0 (ps.map bytesL) with | none => Ending.returned (.tuple #[.int .i64 0, .bool false]) | some a => Ending.returned (.tuple #[.int .i64 a, .bool true])) = R) := ⟨_, show _ = _ from rfl⟩
    rw [hR.out]
    have HL : Hid (ps.length = 4) := h4
    rw [HL.out] at HS
    clear h4 hrd
    go_enter Tryd.func24, Tryd.ntmps24
    go_wp2_with fail
    refine HS.out.mono ?_
    rintro e w1 ⟨⟨v, rfl, hown⟩, hb1⟩
    obtain ⟨g, cap, rfl, hc0, hc1, hcells⟩ := own_cells hown (by omega)
    have HC : Hid (∀ (k : Nat) (u : Value), (ps.map strV)[k]? = some u → w1.cell? ⟨g, k, none⟩ = some u) := hcells
    have hc2 : cap ≤ 9223372036854775807 := by unfold maxLen at hc1; omega
    clear hcells hown hc1
    go_wp2_with fail
    go_loop [5, 6] (fun a i => ∃ (k : Nat) (z : Int), k ≤ 4 ∧ i = .int .i64 k ∧ a = .int .i64 z ∧ 0 ≤ z ∧ z < 256 ^ k ∧ rdFold 0 ((ps.map bytesL).take k) = some z) (fun _ i => 4 - (intOf i).toNat)
    case atStart => exact ⟨0, 0, by omega, rfl, rfl, by omega, by decide, rfl⟩
    case round =>
      obtain ⟨k, z, hk, rfl, rfl, z0, z1, hf⟩ := hrel
      have HF : Hid (rdFold 0 ((ps.map bytesL).take k) = some z) := hf
      have HZ1 : Hid (z < 256 ^ k) := z1
      clear hf z1
      by_cases hlt : k < 4
      · have zb := pow256 k z HZ1.out hlt
        have hkl : k < ps.length := by rw [HL.out]; exact hlt
        obtain ⟨x, hx⟩ : ∃ x, Hid (ps[k] = x) := ⟨ps[k], show _ = _ from rfl⟩
        have hxm : x ∈ ps := by rw [← hx.out]; exact List.getElem_mem hkl
        have hxs : x.length < 4294967281 := HZ.out x hxm
        have hCk : w1.cell? ⟨g, k, none⟩ = some (strV x) := HC.out k _ (by rw [List.getElem?_map, List.getElem?_eq_getElem hkl, hx.out]; rfl)
        obtain ⟨v, hv⟩ : ∃ v, Hid (numR x = v) := ⟨numR x, show _ = _ from rfl⟩
        have hvb : -1 ≤ v ∧ v ≤ 999999999 := by rw [← hv.out]; exact numR_bounds _
        obtain ⟨v0, v1⟩ := hvb
        have HT : Hid ((ps.map bytesL).take (k + 1) = (ps.map bytesL).take k ++ [bytesL x]) := by
          rw [← hx.out]
          have : k < (ps.map bytesL).length := by simpa using hkl
          have h2 := List.take_succ_eq_append_getElem this
          rw [List.getElem_map] at h2
          exact h2
        clear hxm
        by_cases hgood : 0 ≤ v ∧ v ≤ 255
        · obtain ⟨g0, g1⟩ := hgood
          have HG : Hid (okNum x = true ∧ numOf x = v) := numR_good hv.out g0
          have hw : IntKind.i64.wrap (256 * z + v) = 256 * z + v := wrapi _ (by omega)
          have hw2 : IntKind.i64.wrap (256 * z) = 256 * z := wrapi _ (by omega)
          have d0 : decide (v < 0) = false := decide_eq_false (by omega)
          have d1 : decide (255 < v) = false := decide_eq_false (by omega)
          go_wp2_with (go_at_call 56; refine (rNumberOf_at x v _ hxs hv).mono ?_; rintro e w2 ⟨rfl, hw2'⟩; subst hw2')
          go_round
          case rel => exact ⟨k + 1, z * 256 + v, by omega, by go_num, by rw [Int.mul_comm z 256], by omega, by rw [Int.pow_succ]; have := HZ1.out; omega, by rw [HT.out, rdFold_snoc, HF.out, Option.bind_some, show (bytesL x).data.toList = x from by simp [bytesL], HG.out.2, if_pos ⟨HG.out.1, g1⟩]⟩
          case measure => simp [intOf]; omega
        · have hor : v < 0 ∨ 255 < v := by omega
          have hbad : rdFold 0 (ps.map bytesL) = none := by
            rw [← List.take_append_drop (k + 1) (ps.map bytesL)]
            apply rdFold_append
            rw [HT.out, rdFold_snoc, HF.out, Option.bind_some, show (bytesL x).data.toList = x from by simp [bytesL], if_neg (numR_bad hv.out hor)]
          have HR : Hid (R = Ending.returned (.tuple #[.int .i64 0, .bool false])) := by rw [← hR.out, hbad]; rfl
          clear hbad hgood
          have hor2 : decide (v < 0) = true ∨ (decide (v < 0) = false ∧ decide (255 < v) = true) := by
            by_cases h : v < 0
            · exact Or.inl (decide_eq_true h)
            · exact Or.inr ⟨decide_eq_false h, decide_eq_true (by omega)⟩
          clear hor
          rcases hor2 with d0 | ⟨d0, d1⟩
          · go_wp2_with (go_at_call 56; refine (rNumberOf_at x v _ hxs hv).mono ?_; rintro e w2 ⟨rfl, hw2'⟩; subst hw2')
            go_ret2
            exact ⟨HR.out.symm, hb1⟩
          · go_wp2_with (go_at_call 56; refine (rNumberOf_at x v _ hxs hv).mono ?_; rintro e w2 ⟨rfl, hw2'⟩; subst hw2')
            go_ret2
            exact ⟨HR.out.symm, hb1⟩
      · have hkk : k = 4 := by omega
        have hfin : rdFold 0 (ps.map bytesL) = some z := by
          have := HF.out
          rwa [List.take_of_length_le (by rw [List.length_map, HL.out]; omega)] at this
        have HR : Hid (R = Ending.returned (.tuple #[.int .i64 z, .bool true])) := by rw [← hR.out, hfin]; rfl
        clear hfin hkk
        go_wp2
        go_ret2
        exact ⟨HR.out.symm, hb1⟩
  · have hrd : rd4 ps = none := by unfold rd4; rw [if_neg h4]
    rw [hrd]
    obtain ⟨L, hL⟩ : ∃ L, Hid (ps.length = L) := ⟨ps.length, show _ = _ from rfl⟩
    have hL4 : ((L : Int) != 4) = true := by rw [bne_iff_ne, ← hL.out]; omega
    rw [hL.out] at HS hpl
    clear h4 hrd
    go_enter Tryd.func24, Tryd.ntmps24
    go_wp2_with fail
    refine HS.out.mono ?_
    rintro e w1 ⟨⟨v, rfl, hown⟩, hb1⟩
    obtain ⟨g, cap, rfl, hc0, hc1, -⟩ := own_cells hown (by omega)
    go_wp2_with fail
    go_ret2
    exact ⟨rfl, hb1⟩
end Go.Proofs.YthehpnhjfnenoaaDoor
