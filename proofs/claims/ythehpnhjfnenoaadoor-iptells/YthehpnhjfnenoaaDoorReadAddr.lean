/-
  ip.ReadAddr: what it returns at every text shorter than 2 to the 32 bytes.
-/
import Derived.Test.YthehpnhjfnenoaaDoorNumRead
import Derived.Test.YthehpnhjfnenoaaDoorEnv
namespace Go.Proofs.YthehpnhjfnenoaaDoor
open Go.RowKit

/-- The words of a text between dots, five at most: the fifth is the rest. -/
def words (s : ByteArray) : List ByteArray := Lib.splitB ⟨#[46]⟩ 0 (min 5 (s.size + 1) - 1) s
def rdFold : Int → List ByteArray → Option Int
  | a, [] => some a
  | a, x :: r => if okNum x.data.toList = true ∧ numOf x.data.toList ≤ 255 then rdFold (a * 256 + numOf x.data.toList) r else none
def rdAddr (s : ByteArray) : Option Int := if (words s).length = 4 then rdFold 0 (words s) else none

theorem hide' {p : Prop} (h : p) : Hid p := h
theorem pow256 (k : Nat) (a : Int) (h1 : a < 256 ^ k) (h2 : k < 4) : a ≤ 16777215 := by
  have : k = 0 ∨ k = 1 ∨ k = 2 ∨ k = 3 := by omega
  rcases this with rfl | rfl | rfl | rfl <;> simp at h1 <;> omega
theorem rdFold_snoc (a : Int) (l : List ByteArray) (x : ByteArray) : rdFold a (l ++ [x]) = (rdFold a l).bind fun b => if okNum x.data.toList = true ∧ numOf x.data.toList ≤ 255 then some (b * 256 + numOf x.data.toList) else none := by
  induction l generalizing a with
  | nil => simp [rdFold]
  | cons y r ih =>
    simp only [List.cons_append, rdFold]
    split
    · exact ih _
    · rfl
theorem rdFold_append (a : Int) (l r : List ByteArray) (h : rdFold a l = none) : rdFold a (l ++ r) = none := by
  induction l generalizing a with
  | nil => simp [rdFold] at h
  | cons y l ih =>
    simp only [List.cons_append, rdFold] at h ⊢
    split
    · rename_i hy; rw [if_pos hy] at h; exact ih _ h
    · rfl

theorem splitB_size (sep : ByteArray) (save : Nat) : ∀ (k : Nat) (s : ByteArray) (x : ByteArray), x ∈ Lib.splitB sep save k s → x.size ≤ s.size + save
  | 0, s, x, h => by simp [Lib.splitB] at h; subst h; omega
  | k + 1, s, x, h => by
    unfold Lib.splitB at h
    split at h
    · simp at h; subst h; omega
    · rcases List.mem_cons.1 h with rfl | h
      · simp; omega
      · have := splitB_size sep save k _ x h
        simp at this
        omega
theorem splitB_length (sep : ByteArray) (save : Nat) : ∀ (k : Nat) (s : ByteArray), 1 ≤ (Lib.splitB sep save k s).length ∧ (Lib.splitB sep save k s).length ≤ k + 1
  | 0, s => by simp [Lib.splitB]
  | k + 1, s => by
    unfold Lib.splitB
    split
    · simp
    · have := splitB_length sep save k (s.extract ((Lib.indexB s sep).toNat + sep.size) s.size)
      simp only [List.length_cons]
      omega
theorem words_size {s x : ByteArray} (h : x ∈ words s) : x.size ≤ s.size := splitB_size _ 0 _ s x h
theorem words_length (s : ByteArray) : 1 ≤ (words s).length ∧ (words s).length ≤ min 5 (s.size + 1) := by
  have := splitB_length ⟨#[46]⟩ 0 (min 5 (s.size + 1) - 1) s
  unfold words
  omega
theorem cellsOf_get {l : List ByteArray} {N k : Nat} (hk : k < l.length) : (Lib.cellsOf l N)[k]? = some (.string l[k]) := by
  unfold Lib.cellsOf
  rw [List.getElem?_toArray, List.getElem?_append_left (by simpa using hk)]
  simp [List.getElem?_map, List.getElem?_eq_getElem hk]

theorem readNumber_at (s : ByteArray) (v : Int) (b : Bool) (w : World) (hs : s.size ≤ maxLen) (hv : Hid (numOf s.data.toList = v)) (hb : Hid (okNum s.data.toList = b)) :
    Calls Tryd.prog 52 #[.string s] w fun e w' => e = .returned (.tuple #[.int .i64 v, .bool b]) ∧ w' = w := by
  rw [← hv.out, ← hb.out]
  exact number_any s w hs
theorem numOf_bounds (l : List UInt8) : 0 ≤ numOf l ∧ numOf l ≤ 999999999 := by
  unfold numOf
  split
  · rename_i h
    have h' := h
    unfold okNum at h'
    simp only [Bool.and_eq_true, decide_eq_true_eq] at h'
    exact valD_le l h'.1.1.2 h'.2
  · omega
theorem or256 (a n : Int) (ha : 0 ≤ a) (ha' : a ≤ 16777215) (hn : 0 ≤ n) (hn' : n ≤ 255) : bits .or .i64 (a * 256) n = a * 256 + n :=
  bits_join .i64 63 (by decide) wraps_i64 8 (a * 256) n (by omega) (by omega) (by omega) hn (by omega) (by omega)

set_option maxHeartbeats 2000000 in
theorem readAddr_any (s : ByteArray) (et eb es : Addr) (m : Int) (w : World) (h : IpEnv w et eb es m) (hs : s.size < 4294967281) :
    Calls Tryd.prog 23 #[.string s] w fun e w' => (e = match rdAddr s with | none => .returned (.tuple #[.int .i64 0, .iface 72 (.pointer (some et))]) | some a => .returned (.tuple #[.int .i64 a, .nilIface])) ∧ Below w.heap.size w w' := by
  have HS : Hid (Calls Tryd.prog 54 #[.string s, .string ⟨#[46]⟩, .int .i64 5] w fun e w' => e = .returned (.slice (some ⟨w.heap.size, 0, none⟩) (words s).length (min 5 (s.size + 1))) ∧ w' = w.alloc (.cells (Lib.cellsOf (words s) (min 5 (s.size + 1))) 9)) :=
    Tryd.strings_SplitN s ⟨#[46]⟩ 5 m w hs h.max (by decide) (by decide) (by decide)
  have hgt := h.txt
  have hglt : 0 < w.heap.size := cell_lt' hgt
  obtain ⟨ws, hws⟩ : ∃ ws, Hid (words s = ws) := ⟨words s, show _ = _ from rfl⟩
  have hsz : ∀ x ∈ ws, x.size < 4294967281 := fun x hx => by
    have := words_size (s := s) (x := x) (by rw [hws.out]; exact hx)
    omega
  have HZ : Hid (∀ x ∈ ws, x.size < 4294967281) := hsz
  have hwl := words_length s
  obtain ⟨N, hN⟩ : ∃ N, Hid (min 5 (s.size + 1) = N) := ⟨min 5 (s.size + 1), show _ = _ from rfl⟩
  rw [hws.out, hN.out] at HS
  rw [hws.out, hN.out] at hwl
  have hN5 : N ≤ 5 := by have := hN.out; omega
  obtain ⟨C, hC⟩ : ∃ C, Hid (Lib.cellsOf ws N = C) := ⟨Lib.cellsOf ws N, show _ = _ from rfl⟩
  rw [hC.out] at HS
  by_cases h4 : ws.length = 4
  · have hrd : rdAddr s = rdFold 0 ws := by unfold rdAddr; rw [hws.out, if_pos h4]
    rw [hrd]
    obtain ⟨R, hR⟩ : ∃ R, Hid ((match rdFold 0 ws with | none => Ending.returned (.tuple #[.int .i64 0, .iface 72 (.pointer (some et))]) | some a => Ending.returned (.tuple #[.int .i64 a, .nilIface])) = R) := ⟨_, show _ = _ from rfl⟩
    rw [hR.out]
    have HL : Hid (ws.length = 4) := h4
    rw [HL.out] at HS
    clear h4 hsz hrd
    go_enter Tryd.func23, Tryd.ntmps23
    go_wp2_with (go_at_call 54; refine HS.out.mono ?_; rintro e w1 ⟨rfl, rfl⟩)
    go_loop [5, 18] (fun a i => ∃ (k : Nat) (z : Int), k ≤ 4 ∧ i = .int .i64 k ∧ a = .int .i64 z ∧ 0 ≤ z ∧ z < 256 ^ k ∧ rdFold 0 (ws.take k) = some z) (fun _ i => 4 - (intOf i).toNat)
    case atStart => exact ⟨0, 0, by omega, rfl, rfl, by omega, by decide, rfl⟩
    case round =>
      obtain ⟨k, z, hk, rfl, rfl, z0, z1, hf⟩ := hrel
      have HF : Hid (rdFold 0 (ws.take k) = some z) := hf
      have HZ1 : Hid (z < 256 ^ k) := z1
      clear hf z1
      by_cases hlt : k < 4
      · have zb := pow256 k z HZ1.out hlt
        have hkl : k < ws.length := by rw [HL.out]; exact hlt
        obtain ⟨x, hx⟩ : ∃ x, Hid (ws[k] = x) := ⟨ws[k], show _ = _ from rfl⟩
        have hxm : x ∈ ws := by rw [← hx.out]; exact List.getElem_mem hkl
        have hxs : x.size ≤ maxLen := by have := HZ.out x hxm; unfold maxLen; omega
        have hCk : C[k]? = some (.string x) := by rw [← hC.out, cellsOf_get hkl, hx.out]
        obtain ⟨v, hv⟩ : ∃ v, Hid (numOf x.data.toList = v) := ⟨numOf x.data.toList, show _ = _ from rfl⟩
        have hvb : 0 ≤ v ∧ v ≤ 999999999 := by rw [← hv.out]; exact numOf_bounds _
        obtain ⟨v0, v1⟩ := hvb
        have HT : Hid (ws.take (k + 1) = ws.take k ++ [x]) := by rw [← hx.out]; exact List.take_succ_eq_append_getElem hkl
        clear hxm
        by_cases hgood : okNum x.data.toList = true ∧ v ≤ 255
        · obtain ⟨hok, hv255⟩ := hgood
          have HO : Hid (okNum x.data.toList = true) := hok
          clear hok
          go_wp2_with (go_at_call 52; refine (readNumber_at x v true _ hxs hv HO).mono ?_; rintro e w2 ⟨rfl, rfl⟩)
          go_round
          case rel => exact ⟨k + 1, z * 256 + v, by omega, by go_num, by rw [or256 z v z0 zb v0 hv255], by omega, by rw [Int.pow_succ]; have := HZ1.out; omega, by rw [HT.out, rdFold_snoc, HF.out, Option.bind_some, hv.out, if_pos ⟨HO.out, hv255⟩]⟩
          case measure => simp [intOf]; omega
        · have hbad : rdFold 0 ws = none := by
            rw [← List.take_append_drop (k + 1) ws]
            apply rdFold_append
            rw [HT.out, rdFold_snoc, HF.out, Option.bind_some, hv.out, if_neg hgood]
          have HR : Hid (R = Ending.returned (.tuple #[.int .i64 0, .iface 72 (.pointer (some et))])) := by rw [← hR.out, hbad]; rfl
          clear hbad
          cases hok : okNum x.data.toList with
          | false =>
            have HO : Hid (okNum x.data.toList = false) := hok
            clear hok hgood
            go_wp2_with (go_at_call 52; refine (readNumber_at x v false _ hxs hv HO).mono ?_; rintro e w2 ⟨rfl, rfl⟩)
            go_quiet (fail)
            go_wp2
            go_ret2
            exact ⟨HR.out.symm, below_drewN (below_alloc w _) _⟩
          | true =>
            have HO : Hid (okNum x.data.toList = true) := hok
            have hv255 : 255 < v := by
              rcases Int.lt_or_le 255 v with h | h
              · exact h
              · exact absurd ⟨hok, h⟩ hgood
            clear hok hgood
            go_wp2_with (go_at_call 52; refine (readNumber_at x v true _ hxs hv HO).mono ?_; rintro e w2 ⟨rfl, rfl⟩)
            go_quiet (fail)
            go_wp2
            go_ret2
            exact ⟨HR.out.symm, below_drewN (below_alloc w _) _⟩
      · have hkk : k = 4 := by omega
        have hfin : rdFold 0 ws = some z := by
          have := HF.out
          rwa [List.take_of_length_le (by rw [HL.out]; omega)] at this
        have HR : Hid (R = Ending.returned (.tuple #[.int .i64 z, .nilIface])) := by rw [← hR.out, hfin]; rfl
        clear hfin hkk
        go_wp2
        go_ret2
        exact ⟨HR.out.symm, below_alloc w _⟩
  · have hrd : rdAddr s = none := by unfold rdAddr; rw [hws.out, if_neg h4]
    rw [hrd]
    obtain ⟨L, hL⟩ : ∃ L, Hid (ws.length = L) := ⟨ws.length, show _ = _ from rfl⟩
    have hL4 : ((L : Int) != 4) = true := by rw [bne_iff_ne, ← hL.out]; omega
    rw [hL.out] at HS
    rw [hL.out] at hwl
    clear h4 hsz hrd
    go_enter Tryd.func23, Tryd.ntmps23
    go_wp2_with (go_at_call 54; refine HS.out.mono ?_; rintro e w1 ⟨rfl, rfl⟩)
    go_quiet (fail)
    go_wp2
    go_ret2
    exact ⟨rfl, below_drewN (below_alloc w _) _⟩
end Go.Proofs.YthehpnhjfnenoaaDoor
