/-
  What is written as text is read as it was: Read of a right prefix's text. Plain mathematics on bytes.
-/
import Derived.Test.YthehpnhjfnenoaaDoorRead
namespace Go.Proofs.YthehpnhjfnenoaaDoor
open Go.RowKit

theorem idx_hit (c : UInt8) : ∀ (x r : List UInt8), c ∉ x → Lib.index (x ++ c :: r) [c] = x.length
  | [], r, _ => by simp [Lib.index]
  | b :: x, r, h => by
    have hb : ¬ c = b := fun e => h (by simp [e])
    have ih := idx_hit c x r (fun hm => h (List.mem_cons_of_mem _ hm))
    simp only [List.cons_append, Lib.index, ih]
    have h1 : ([c] : List UInt8).isPrefixOf (b :: (x ++ c :: r)) = false := by simp [List.isPrefixOf, hb]
    rw [h1]
    have h2 : ((x.length : Int) == -1) = false := by rw [beq_eq_false_iff_ne]; omega
    rw [h2]
    simp
theorem idx_none (c : UInt8) : ∀ (x : List UInt8), c ∉ x → Lib.index x [c] = -1
  | [], _ => by simp [Lib.index]
  | b :: x, h => by
    have hb : ¬ c = b := fun e => h (by simp [e])
    have ih := idx_none c x (fun hm => h (List.mem_cons_of_mem _ hm))
    simp only [Lib.index, ih]
    have h1 : ([c] : List UInt8).isPrefixOf (b :: x) = false := by simp [List.isPrefixOf, hb]
    rw [h1]
    simp

theorem cut_hit (x r : List UInt8) (h : 47 ∉ x) : Lib.cut (x ++ 47 :: r) [47] = (x, r, true) := by
  unfold Lib.cut
  rw [idx_hit 47 x r h, if_pos (by omega)]
  simp

theorem splitB_hit' (k : Nat) (x r : List UInt8) (h : 46 ∉ x) : Lib.splitB ⟨#[46]⟩ 0 (k + 1) ⟨(x ++ 46 :: r).toArray⟩ = ⟨x.toArray⟩ :: Lib.splitB ⟨#[46]⟩ 0 k ⟨r.toArray⟩ := by
  have hi : Lib.indexB ⟨(x ++ 46 :: r).toArray⟩ ⟨#[46]⟩ = (x.length : Int) := idx_hit 46 x r h
  rw [Lib.splitB_hit _ _ _ _ x.length hi]
  congr 1
  · apply ByteArray.ext; simp [ByteArray.data_extract]
  · congr 1
    apply ByteArray.ext
    simp only [ByteArray.data_extract]
    apply Array.ext'
    simp [ByteArray.size]
    exact List.take_of_length_le (by omega)
theorem splitB_last (k : Nat) (x : List UInt8) (h : 46 ∉ x) : Lib.splitB ⟨#[46]⟩ 0 k ⟨x.toArray⟩ = [⟨x.toArray⟩] :=
  Lib.splitB_miss _ _ _ _ (idx_none 46 x h)

theorem ofNat_dig (d : Nat) (h : d < 10) : (UInt8.ofNat (48 + d)).toNat = 48 + d := by simp; omega

/-- What the digits of a small number are good for. -/
structure DigSpec (l : List UInt8) (u : Nat) : Prop where
  ok : okNum l = true
  val : valD l = u
  dot : 46 ∉ l
  slash : 47 ∉ l
  len : 1 ≤ l.length

theorem dig_ne (d : Nat) (h : d < 10) (c : UInt8) (hc : c.toNat < 48) : c ≠ UInt8.ofNat (48 + d) := fun e => by
  have := ofNat_dig d h; rw [← e] at this; omega
theorem digB_ofNat (d : Nat) (h : d < 10) : digB (UInt8.ofNat (48 + d)) = true := by
  unfold digB; rw [ofNat_dig d h]; exact decide_eq_true (by omega)

theorem dec_spec (u : Nat) (h : u < 1000) : DigSpec (Lib.decDigits u) u := by
  by_cases h1 : u < 10
  · rw [Lib.decDigits_one h1]
    have hd := ofNat_dig u h1
    refine ⟨okNum_yes _ (by simp) (by simp) (by simp) (by simp only [List.all_cons, List.all_nil, digB_ofNat u h1]; rfl), ?_, ?_, ?_, by simp⟩
    · simp only [valD, List.foldl_cons, List.foldl_nil, hd]; omega
    · simp only [List.mem_singleton]; exact dig_ne u h1 46 (by decide)
    · simp only [List.mem_singleton]; exact dig_ne u h1 47 (by decide)
  · by_cases h2 : u < 100
    · rw [Lib.decDigits_two h1 h2]
      have d1 : u / 10 < 10 := by omega
      have d2 : u % 10 < 10 := by omega
      have e1 := ofNat_dig _ d1
      have e2 := ofNat_dig _ d2
      refine ⟨okNum_yes _ (by simp) (by simp) ?_ (by simp only [List.all_cons, List.all_nil, digB_ofNat _ d1, digB_ofNat _ d2]; rfl), ?_, ?_, ?_, by simp⟩
      · intro hh
        have := congrArg UInt8.toNat (Option.some.inj hh.1)
        rw [e1] at this
        have h48 : (48 : UInt8).toNat = 48 := rfl
        omega
      · simp only [valD, List.foldl_cons, List.foldl_nil, e1, e2]; omega
      · simp only [List.mem_cons, List.mem_nil_iff, or_false, not_or]; exact ⟨dig_ne _ d1 46 (by decide), dig_ne _ d2 46 (by decide)⟩
      · simp only [List.mem_cons, List.mem_nil_iff, or_false, not_or]; exact ⟨dig_ne _ d1 47 (by decide), dig_ne _ d2 47 (by decide)⟩
    · have hdd : Lib.decDigits u = [UInt8.ofNat (48 + u / 100), UInt8.ofNat (48 + u / 10 % 10), UInt8.ofNat (48 + u % 10)] := by
        rw [Lib.decDigits, dif_neg h1, Lib.decDigits_two (by omega) (by omega), show u / 10 / 10 = u / 100 by omega]
        rfl
      rw [hdd]
      have d0 : u / 100 < 10 := by omega
      have d1 : u / 10 % 10 < 10 := by omega
      have d2 : u % 10 < 10 := by omega
      have e0 := ofNat_dig _ d0
      have e1 := ofNat_dig _ d1
      have e2 := ofNat_dig _ d2
      refine ⟨okNum_yes _ (by simp) (by simp) ?_ (by simp only [List.all_cons, List.all_nil, digB_ofNat _ d0, digB_ofNat _ d1, digB_ofNat _ d2]; rfl), ?_, ?_, ?_, by simp⟩
      · intro hh
        have := congrArg UInt8.toNat (Option.some.inj hh.1)
        rw [e0] at this
        have h48 : (48 : UInt8).toNat = 48 := rfl
        omega
      · simp only [valD, List.foldl_cons, List.foldl_nil, e0, e1, e2]; omega
      · simp only [List.mem_cons, List.mem_nil_iff, or_false, not_or]; exact ⟨dig_ne _ d0 46 (by decide), dig_ne _ d1 46 (by decide), dig_ne _ d2 46 (by decide)⟩
      · simp only [List.mem_cons, List.mem_nil_iff, or_false, not_or]; exact ⟨dig_ne _ d0 47 (by decide), dig_ne _ d1 47 (by decide), dig_ne _ d2 47 (by decide)⟩
theorem itoa_spec (n : Int) (h0 : 0 ≤ n) (h1 : n < 1000) : DigSpec (Lib.itoa n) n.toNat := by
  obtain ⟨u, rfl⟩ := Int.eq_ofNat_of_zero_le h0
  rw [Lib.itoa_nonneg, Int.toNat_natCast]
  exact dec_spec u (by omega)
theorem DigSpec.num {l : List UInt8} {u : Nat} (h : DigSpec l u) : numOf l = u := by rw [numOf_yes h.ok, h.val]

theorem words_txt4 (a : Int) (h0 : 0 ≤ a) (h1 : a < 4294967296) : words ⟨(txt4 a).toArray⟩ = [⟨(Lib.itoa (a / 16777216)).toArray⟩, ⟨(Lib.itoa (a / 65536 % 256)).toArray⟩, ⟨(Lib.itoa (a / 256 % 256)).toArray⟩, ⟨(Lib.itoa (a % 256)).toArray⟩] := by
  have s1 := itoa_spec (a / 16777216) (by omega) (by omega)
  have s2 := itoa_spec (a / 65536 % 256) (by omega) (by omega)
  have s3 := itoa_spec (a / 256 % 256) (by omega) (by omega)
  have s4 := itoa_spec (a % 256) (by omega) (by omega)
  unfold words
  have hsz : (ByteArray.mk (txt4 a).toArray).size = (txt4 a).length := by show (txt4 a).toArray.size = _; simp
  have hlen : 7 ≤ (txt4 a).length := by
    unfold txt4
    simp only [List.length_append, List.length_cons]
    have := s1.len; have := s2.len; have := s3.len; have := s4.len
    omega
  rw [hsz, show min 5 ((txt4 a).length + 1) - 1 = 3 + 1 by omega]
  unfold txt4
  rw [splitB_hit' 3 _ _ s1.dot, splitB_hit' 2 _ _ s2.dot, splitB_hit' 1 _ _ s3.dot, splitB_last 1 _ s4.dot]
theorem rdAddr_txt (a : Int) (h0 : 0 ≤ a) (h1 : a < 4294967296) : rdAddr ⟨(txt4 a).toArray⟩ = some a := by
  have s1 := itoa_spec (a / 16777216) (by omega) (by omega)
  have s2 := itoa_spec (a / 65536 % 256) (by omega) (by omega)
  have s3 := itoa_spec (a / 256 % 256) (by omega) (by omega)
  have s4 := itoa_spec (a % 256) (by omega) (by omega)
  unfold rdAddr
  rw [words_txt4 a h0 h1, if_pos (by rfl)]
  simp only [rdFold, s1.ok, s2.ok, s3.ok, s4.ok, s1.num, s2.num, s3.num, s4.num]
  rw [if_pos ⟨trivial, by omega⟩, if_pos ⟨trivial, by omega⟩, if_pos ⟨trivial, by omega⟩, if_pos ⟨trivial, by omega⟩]
  congr 1
  omega
theorem slash_txt4 (a : Int) (h0 : 0 ≤ a) (h1 : a < 4294967296) : 47 ∉ txt4 a := by
  have s1 := itoa_spec (a / 16777216) (by omega) (by omega)
  have s2 := itoa_spec (a / 65536 % 256) (by omega) (by omega)
  have s3 := itoa_spec (a / 256 % 256) (by omega) (by omega)
  have s4 := itoa_spec (a % 256) (by omega) (by omega)
  unfold txt4
  simp only [List.mem_append, List.mem_cons, not_or]
  exact ⟨s1.slash, by decide, s2.slash, by decide, s3.slash, by decide, s4.slash⟩
/-- Read of a right prefix's text is that prefix. -/
theorem rdP_txt (a n : Int) (h : rt a n = true) : rdP ⟨(txtP a n).toArray⟩ = (a, n, 0) := by
  obtain ⟨⟨a0, a1⟩, ⟨n0, n1⟩, -⟩ := (rt_iff a n).1 h
  have s := itoa_spec n n0 (by omega)
  unfold rdP
  have hc : Lib.cut (ByteArray.mk (txtP a n).toArray).data.toList [47] = (txt4 a, Lib.itoa n, true) := by
    show Lib.cut (txtP a n) [47] = _
    exact cut_hit _ _ (slash_txt4 a a0 a1)
  rw [hc]
  simp only [rdAddr_txt a a0 a1, s.ok, s.num]
  rw [show ((n.toNat : Nat) : Int) = n by omega, chkC_rt a n h]
  simp

/-- 10.1.0.0/16. -/
theorem txt_ten : txtP 167837696 16 = [49, 48, 46, 49, 46, 48, 46, 48, 47, 49, 54] := by
  unfold txtP txt4
  rw [show (167837696 / 16777216 : Int) = ((10 : Nat) : Int) by decide, show (167837696 / 65536 % 256 : Int) = ((1 : Nat) : Int) by decide, show (167837696 / 256 % 256 : Int) = ((0 : Nat) : Int) by decide, show (167837696 % 256 : Int) = ((0 : Nat) : Int) by decide, show (16 : Int) = ((16 : Nat) : Int) by decide]
  rw [Lib.itoa_nonneg, Lib.itoa_nonneg, Lib.itoa_nonneg, Lib.itoa_nonneg, Lib.decDigits_two (i := 10) (by decide) (by decide), Lib.decDigits_one (i := 1) (by decide), Lib.decDigits_one (i := 0) (by decide), Lib.decDigits_two (i := 16) (by decide) (by decide)]
  decide
theorem rt_ten : rt 167837696 16 = true := by decide
theorem has_ten : hasB 167837696 16 167837773 = true := by decide
end Go.Proofs.YthehpnhjfnenoaaDoor
