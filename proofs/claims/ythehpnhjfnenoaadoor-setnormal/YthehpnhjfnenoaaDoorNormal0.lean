/-
  The law SetNormal: plain mathematics of a normal list's members, and the calls that its loops make.
-/
import Derived.Test.YthehpnhjfnenoaaDoorSet12
import Derived.Test.YthehpnhjfnenoaaDoorIp3
import Derived.Test.YthehpnhjfnenoaaDoorOrderMath
import Derived.Test.YthehpnhjfnenoaaDoorSetMath3
namespace Go.Proofs.YthehpnhjfnenoaaDoor
open Go.RowKit

/-- the first address of the one above. -/
def upA (p : Int × Int) : Int := p.1 - p.1 % pw (p.2 - 1)
theorem np_pair {L : List (Int × Int)} (h : NP L) (k i : Nat) (hk : k < i) (hi : i < L.length) : L[k].1 + pw L[k].2 ≤ L[i].1 ∧ ¬ Sib L[k] L[i] := by
  induction L generalizing k i with
  | nil => simp at hi
  | cons p r ih =>
    cases i with
    | zero => omega
    | succ i =>
      cases k with
      | zero => exact ⟨h.2.1 _ (List.getElem_mem _), h.2.2.1 _ (List.getElem_mem _)⟩
      | succ k => exact ih h.2.2.2 k i (by omega) (by simpa using hi)
/-- two of a normal list: not the halves of one. -/
theorem not_halves {p q : Int × Int} (hp : rt p.1 p.2 = true) (hq : rt q.1 q.2 = true) (hle : p.1 + pw p.2 ≤ q.1) (hs : ¬ Sib p q) (_hp0 : 0 < p.2) (_hq0 : 0 < q.2) : ¬ (upA q = upA p ∧ q.2 - 1 = p.2 - 1) := by
  rintro ⟨h1, h2⟩
  have e : q.2 = p.2 := by omega
  unfold upA at h1
  rw [e] at h1
  have hp' := (rt_iff _ _).1 hp
  have hq' := (rt_iff _ _).1 hq
  rw [e] at hq'
  have hw := pw_half p.2 (by omega) hp'.2.1.2
  have hpos := pw_pos p.2
  have m1 := Int.emod_nonneg p.1 (show pw (p.2 - 1) ≠ 0 by omega)
  have m2 := Int.emod_lt_of_pos q.1 (show 0 < pw (p.2 - 1) by omega)
  have m3 : q.1 - p.1 < pw (p.2 - 1) := by omega
  have m4 : q.1 % pw (p.2 - 1) - p.1 % pw (p.2 - 1) = q.1 - p.1 := by omega
  have hd : (q.1 - p.1) % pw p.2 = 0 := by rw [Int.sub_emod, hp'.2.2, hq'.2.2]; simp
  have he : q.1 - p.1 = pw p.2 := by
    have := mult_in (a := q.1 - p.1) (b := pw p.2) (x := pw p.2) (by omega) hd (Int.emod_self) (by omega) (by omega)
    exact this
  have hmod : p.1 % pw (p.2 - 1) = 0 := by
    have hlt : p.1 % pw (p.2 - 1) < pw p.2 := by omega
    have hz : (p.1 % pw (p.2 - 1)) % pw p.2 = 0 := by
      rw [Int.emod_emod_of_dvd _ ⟨2, by rw [hw]; omega⟩]
      exact hp'.2.2
    rw [Int.emod_eq_of_lt m1 hlt] at hz
    exact hz
  exact hs ⟨by omega, e, hmod, by omega⟩
theorem not_in_low {p q : Int × Int} (hp : rt p.1 p.2 = true) (hq : rt q.1 q.2 = true) (hle : p.1 + pw p.2 ≤ q.1) : inB q.1 q.2 p.1 p.2 = false := by
  rw [Bool.eq_false_iff]
  intro h
  rw [in_iff_span hq hp] at h
  omega
theorem not_in_high {p q : Int × Int} (hp : rt p.1 p.2 = true) (hq : rt q.1 q.2 = true) (hle : p.1 + pw p.2 ≤ q.1) : inB p.1 p.2 q.1 q.2 = false := by
  rw [Bool.eq_false_iff]
  intro h
  rw [in_iff_span hp hq] at h
  have := pw_pos p.2
  omega
theorem less_low {p q : Int × Int} (hp : rt p.1 p.2 = true) (hq : rt q.1 q.2 = true) (hle : p.1 + pw p.2 ≤ q.1) : lessB p.1 p.2 q.1 q.2 = true := by
  rw [lessB_iff _ _ _ _ hp hq]
  have := pw_pos p.2
  omega
/-- of right prefixes set.Has tells what is in them. -/
theorem hasL_right {L : List (Int × Int)} (h : Rights L) (x : Int) : hasL L x = inPB L x := by
  unfold hasL inPB
  rw [Bool.eq_iff_iff, List.any_eq_true, List.any_eq_true]
  have key : ∀ p ∈ L, (hasB p.1 p.2 x = true ↔ decide (p.1 ≤ x ∧ x < p.1 + pw p.2) = true) := by
    intro p hp
    have hr := h p hp
    have hr' := (rt_iff _ _).1 hr
    rw [decide_eq_true_iff]
    unfold hasB
    simp only [Bool.and_eq_true, beq_iff_eq, hr, true_and, isA_iff]
    constructor
    · rintro ⟨-, h2⟩; exact in_span hr h2
    · intro h2
      have := rt_end hr
      exact ⟨by omega, div_of_span hr h2.1 h2.2⟩
  constructor
  · rintro ⟨p, hp, h2⟩; exact ⟨p, hp, (key p hp).1 h2⟩
  · rintro ⟨p, hp, h2⟩; exact ⟨p, hp, (key p hp).2 h2⟩
/-- two of a normal list have one above each. -/
theorem np_pos {p q : Int × Int} (hp : rt p.1 p.2 = true) (hq : rt q.1 q.2 = true) (hle : p.1 + pw p.2 ≤ q.1) : 0 < p.2 ∧ 0 < q.2 := by
  have hp' := (rt_iff _ _).1 hp
  have hq' := (rt_iff _ _).1 hq
  have hpos := pw_pos p.2
  constructor
  · rcases Int.lt_or_le 0 p.2 with h | h
    · exact h
    · have e : p.2 = 0 := by omega
      rw [e, pw_0] at hle
      omega
  · rcases Int.lt_or_le 0 q.2 with h | h
    · exact h
    · have e : q.2 = 0 := by omega
      have h3 := hq'.2.2
      rw [e, pw_0, Int.emod_eq_of_lt hq'.1.1 hq'.1.2] at h3
      omega
theorem upAny (p : Int × Int) (c m : Int) (hc : Hid (upA p = c)) (hm : Hid (p.2 - 1 = m)) (et eb es : Addr) (w : World) (hE : IpErrs w et eb es) (hr : rt p.1 p.2 = true) (hn : 0 < p.2) :
    Calls Tryd.prog 17 #[.agg #[.int .i64 p.1, .int .i64 p.2]] w fun e w' => e = .returned (.tuple #[.agg #[.int .i64 c, .int .i64 m], .nilIface]) ∧ Below w.heap.size w w' := by
  rw [← hm.out]
  exact up_ok p.1 p.2 c et eb es w hE hr hn hc
/-- what the law reads: package set's variables, and two lists. -/
structure BIn (w : World) (et eb es : Addr) (a b : List (Int × Int)) (pa pb : Option Addr) : Prop where
  env : SetEnv w et eb es
  pa : Pairs w pa a
  pb : Pairs w pb b
theorem BIn.below {w w' : World} {et eb es : Addr} {a b : List (Int × Int)} {pa pb : Option Addr} (h : BIn w et eb es a b pa pb) (hb : Below w.heap.size w w') : BIn w' et eb es a b pa pb :=
  ⟨h.env.below hb, h.pa.below hb, h.pb.below hb⟩
theorem Holdn.get' {w : World} {v : Value} {L : List (Int × Int)} {g : Int → Bool} (h : Holdn w v L g) : ∃ q c, v = .slice q L.length c ∧ Pairs w q L ∧ NP L ∧ (∀ x, inPB L x = g x) ∧ L.length ≤ 4294967296 ∧ Kind (.slice q L.length c) L.length := by
  obtain ⟨q, c, e, -, -, h3⟩ := h.row
  refine ⟨q, c, e, h3, h.np, fun x => bool_of_iff (inPB_iff _ _) Iff.rfl (h.has x), h.np.few, ?_⟩
  rw [← e]
  exact h.kind
theorem own_get {w : World} {B : Nat} {e : TypeId} {v : Value} {L : List (Int × Int)} (h : w.ownsRow B e 2 v L.length (flat2 L)) : ∃ q c, v = .slice q L.length c ∧ Pairs w q L := by
  obtain ⟨q, c, e, -, -, h3⟩ := own_pairs h
  exact ⟨q, c, e, h3⟩
end Go.Proofs.YthehpnhjfnenoaaDoor
