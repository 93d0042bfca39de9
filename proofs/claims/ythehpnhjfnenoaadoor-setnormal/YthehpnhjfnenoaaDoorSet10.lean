/-
  Package set's Norm, Or, And, Not: what each returns, at whatever prefixes.
-/
import Derived.Test.YthehpnhjfnenoaaDoorSet9
namespace Go.Proofs.YthehpnhjfnenoaaDoor
open Go.RowKit

theorem np_length (L : List (Int × Int)) : ∀ lo : Int, NP L → (∀ p ∈ L, lo ≤ p.1) → lo ≤ 4294967296 → (L.length : Int) ≤ 4294967296 - lo := by
  induction L with
  | nil => intro lo _ _ h; simp; omega
  | cons p r ih =>
    intro lo h hlo _
    have hp := pw_pos p.2
    have he := rt_end h.1
    have := ih (p.1 + pw p.2) h.2.2.2 (fun q hq => h.2.1 q hq) he
    have := hlo p (by simp)
    simp only [List.length_cons]
    omega
theorem NP.few {L : List (Int × Int)} (h : NP L) : L.length ≤ 4294967296 := by
  have := np_length L 0 h (fun p hp => ((rt_iff _ _).1 (h.right p hp)).1.1) (by omega)
  omega
theorem sep_length (S : List (Int × Int)) : ∀ lo : Int, Sep S → (∀ s ∈ S, lo ≤ s.1 ∧ s.2 ≤ 4294967296) → lo ≤ 4294967296 → (S.length : Int) ≤ 4294967296 - lo := by
  induction S with
  | nil => intro lo _ _ h; simp; omega
  | cons s r ih =>
    intro lo h hlo _
    have hs := hlo s (by simp)
    have := ih s.2 h.2.2 (fun t ht => ⟨by have := h.2.1 t ht; omega, (hlo t (by simp [ht])).2⟩) hs.2
    have := h.1
    simp only [List.length_cons]
    omega
theorem right_in {a : List (Int × Int)} (h : Rights a) {x : Int} (hx : inP a x) : 0 ≤ x ∧ x < 4294967296 := by
  obtain ⟨p, hp, h1, h2⟩ := hx
  have h3 := (rt_iff _ _).1 (h p hp)
  have h4 := rt_end (h p hp)
  omega
theorem RightTo.rights {a : List (Int × Int)} (h : RightTo a a.length) : Rights a := fun p hp => by
  obtain ⟨j, hj, rfl⟩ := List.getElem_of_mem hp
  exact h.yes j hj hj
theorem rights_to {a : List (Int × Int)} (h : Rights a) : RightTo a a.length := ⟨Nat.le_refl _, fun j hj _ => h _ (List.getElem_mem hj), fun h => by omega⟩
/-- how far a list's prefixes are right. -/
theorem right_to (a : List (Int × Int)) : ∃ i, RightTo a i := by
  by_cases h : Rights a
  · exact ⟨_, rights_to h⟩
  · have h' : ∃ j, ∃ hj : j < a.length, rt a[j].1 a[j].2 = false := by
      refine Classical.byContradiction fun hn => h fun p hp => ?_
      obtain ⟨j, hj, rfl⟩ := List.getElem_of_mem hp
      cases hr : rt a[j].1 a[j].2 with
      | true => rfl
      | false => exact absurd ⟨j, hj, hr⟩ hn
    have key : ∀ k, (∃ i, RightTo a i) ∨ ∀ j (hj : j < a.length), j < k → rt a[j].1 a[j].2 = true := by
      intro k
      induction k with
      | zero => right; intro j _ h; omega
      | succ k ih =>
        rcases ih with h0 | h0
        · exact .inl h0
        · by_cases hk : k < a.length
          · cases hr : rt a[k].1 a[k].2 with
            | true =>
              right
              intro j hj hjk
              by_cases he : j = k
              · subst he; exact hr
              · exact h0 j hj (by omega)
            | false => exact .inl ⟨k, by omega, h0, fun _ => hr⟩
          · right; intro j hj _; exact h0 j hj (by omega)
    rcases key a.length with h0 | h0
    · exact h0
    · obtain ⟨j, hj, hr⟩ := h'
      have := h0 j hj hj
      rw [hr] at this
      simp at this

/-- a normal set in memory, which has just what is asked. -/
structure Holdn (w : World) (v : Value) (L : List (Int × Int)) (g : Int → Bool) : Prop where
  np : NP L
  has : ∀ x, inP L x ↔ g x = true
  row : ∃ q c, v = .slice q L.length c ∧ L.length ≤ c ∧ c ≤ maxLen ∧ Pairs w q L
  kind : (v = .slice none 0 0 ∧ L.length = 0) ∨ ∃ ad c, v = .slice (some ad) L.length c
  typed : Typed w v
/-- a fault in memory: at i, with Check's error of a prefix. -/
def Faults (w : World) (v : Value) (a : List (Int × Int)) (i : Nat) (eb es : Addr) : Prop :=
  ∃ (h : i < a.length) (b : Nat), v = .iface 29 (.pointer (some ⟨b, 0, none⟩)) ∧ w.heap[b]? = some (.cells #[.int .i64 i, chk a[i].1 a[i].2 eb es] 31 (0, 0))

set_option maxRecDepth 100000 in
set_option maxHeartbeats 4000000 in
theorem norm_any (a : List (Int × Int)) (i : Nat) (hR : RightTo a i) (p : Option Addr) (cap : Nat) (et eb es : Addr) (w : World) (hE : SetEnv w et eb es) (hs : Pairs w p a) (hl : a.length ≤ 137438953472) :
    Calls Tryd.prog 36 #[.slice p a.length cap] w fun e w' => ((i = a.length ∧ ∃ L v, e = .returned (.tuple #[v, .nilIface]) ∧ Holdn w' v L (inPB a)) ∨
      ∃ v, e = .returned (.tuple #[.slice none 0 0, v]) ∧ Faults w' v a i eb es) ∧ Below w.heap.size w w' := by
  obtain ⟨HSP⟩ : Nonempty (Hid (Calls _ _ _ _ _)) := ⟨spansOf_any a i hR p cap et eb es w hE hs (by omega)⟩
  have HE : Hid (SetEnv w et eb es) := hE
  have HR : Hid (RightTo a i) := hR
  clear hE hs hR
  go_enter Tryd.func36, Tryd.ntmps36
  go_wp2_with fail
  refine HSP.out.mono ?_
  rintro e w1 ⟨⟨hi, S, v, rfl, hS, hin, hSl, hown⟩ | ⟨h, b, rfl, hrow⟩, hb1⟩
  · have HI : Hid (i = a.length) := hi
    have hR : Rights a := by have := HR.out; rw [hi] at this; exact this.rights
    clear hi
    have hbd := sep_bound hS (fun z hz => right_in hR ((hin z).1 hz))
    obtain ⟨q, c, rfl, -, -, hp⟩ := own_pairs hown
    obtain ⟨HPO⟩ : Nonempty (Hid (Calls _ _ _ _ _)) := ⟨prefixesOf_any S q c et eb es w1 (HE.out.below hb1) hp (by omega) hS hbd⟩
    obtain ⟨HS⟩ : Nonempty (Hid (Sep S ∧ (∀ x, inS S x ↔ inP a x) ∧ ∀ s ∈ S, 0 ≤ s.1 ∧ s.2 ≤ 4294967296)) := ⟨⟨hS, hin, hbd⟩⟩
    clear hS hin hbd hown hp hR HSP
    go_wp2_with fail
    refine HPO.out.mono ?_
    rintro e w2 ⟨⟨L, v, rfl, hT, hown2⟩, hb2⟩
    have hb := hb1.trans (hb2.mono hb1.size)
    obtain ⟨q2, c2, hv2, h1, h2, hp2⟩ := own_pairs hown2
    obtain ⟨f1, -, f3⟩ := hT.facts HS.out.1 HS.out.2.2
    obtain ⟨HF⟩ : Nonempty (Hid (Holdn w2 v L (inPB a))) := ⟨f1, fun x => by rw [f3, HS.out.2.1, inPB_iff], ⟨q2, c2, hv2, h1, h2, hp2⟩, own_kind hown2, own_typed hown2⟩
    clear hT hown2 hv2 h1 h2 hp2 f1 f3 hb1 hb2 HPO
    go_wp2
    exact bodyPost_ret (v := .tuple #[v, .nilIface]) (by simp [results, Tryd.results36, go_sem]) rfl ⟨.inl ⟨HI.out, L, v, rfl, HF.out⟩, hb⟩
  · obtain ⟨HF⟩ : Nonempty (Hid (Faults w1 (.iface 29 (.pointer (some ⟨b, 0, none⟩))) a i eb es)) := ⟨h, b, rfl, hrow⟩
    clear hrow HSP
    go_wp2
    exact bodyPost_ret (v := .tuple #[.slice none 0 0, .iface 29 (.pointer (some ⟨b, 0, none⟩))]) (by simp [results, Tryd.results36, go_sem]) rfl ⟨.inr ⟨_, rfl, HF.out⟩, hb1⟩
/-- what a question says yes to, of two lists. -/
def askB (q : Bool → Bool → Bool) (a b : List (Int × Int)) (x : Int) : Bool := q (inPB a x) (inPB b x)

set_option maxRecDepth 100000 in
set_option maxHeartbeats 4000000 in
theorem setWhere_any (fq : Nat) (q : Bool → Bool → Bool) (hq : Asks fq q) (hff : q false false = false) (a b : List (Int × Int)) (i j : Nat) (hRa : RightTo a i) (hRb : RightTo b j) (pa pb : Option Addr) (ca cb : Nat) (et eb es : Addr) (w : World) (hE : SetEnv w et eb es) (hpa : Pairs w pa a) (hpb : Pairs w pb b) (hla : a.length ≤ 137438953472) (hlb : b.length ≤ 137438953472) :
    Calls Tryd.prog 64 #[.slice pa a.length ca, .slice pb b.length cb, .func (.func fq) #[] #[]] w fun e w' => ((i = a.length ∧ j = b.length ∧ ∃ L v, e = .returned (.tuple #[v, .nilIface]) ∧ Holdn w' v L (askB q a b)) ∨
      (∃ v, e = .returned (.tuple #[.slice none 0 0, v]) ∧ Faults w' v a i eb es) ∨ (i = a.length ∧ ∃ v, e = .returned (.tuple #[.slice none 0 0, v]) ∧ Faults w' v b j eb es)) ∧ Below w.heap.size w w' := by
  obtain ⟨HSP⟩ : Nonempty (Hid (Calls _ _ _ _ _)) := ⟨spansOf_any a i hRa pa ca et eb es w hE hpa (by omega)⟩
  have HE : Hid (SetEnv w et eb es) := hE
  have HRa : Hid (RightTo a i) := hRa
  have HRb : Hid (RightTo b j) := hRb
  have HPB : Hid (Pairs w pb b) := hpb
  have HQ : Hid (Asks fq q) := hq
  have HFF : Hid (q false false = false) := hff
  clear hE hpa hRa hRb hpb hq hff
  go_enter Tryd.func64, Tryd.ntmps64
  go_wp2_with fail
  refine HSP.out.mono ?_
  rintro e w1 ⟨⟨hi, X, vx, rfl, hX, hinX, hXl, hownX⟩ | ⟨h, bb, rfl, hrow⟩, hb1⟩
  · have HI : Hid (i = a.length) := hi
    have hR : Rights a := by have := HRa.out; rw [hi] at this; exact this.rights
    obtain ⟨qx, cx, rfl, hx1, hx2, hpx⟩ := own_pairs hownX
    obtain ⟨HSP2⟩ : Nonempty (Hid (Calls _ _ _ _ _)) := ⟨spansOf_any b j HRb.out pb cb et eb es w1 (HE.out.below hb1) (HPB.out.below hb1) (by omega)⟩
    obtain ⟨HX⟩ : Nonempty (Hid (Sep X ∧ (∀ x, inS X x ↔ inP a x) ∧ Rights a ∧ Pairs w1 qx X)) := ⟨⟨hX, hinX, hR, hpx⟩⟩
    clear hi hX hinX hR hpx hownX HSP
    go_wp2_with fail
    refine HSP2.out.mono ?_
    rintro e w2 ⟨⟨hj, Y, vy, rfl, hY, hinY, hYl, hownY⟩ | ⟨h, bb, rfl, hrow⟩, hb2⟩
    · have HJ : Hid (j = b.length) := hj
      have hR : Rights b := by have := HRb.out; rw [hj] at this; exact this.rights
      obtain ⟨qy, cy, rfl, hy1, hy2, hpy⟩ := own_pairs hownY
      obtain ⟨HW⟩ : Nonempty (Hid (Calls _ _ _ _ _)) := ⟨spansWhere_any fq q HQ.out X Y qx qy cx cy w2 (HX.out.2.2.2.below hb2) hpy (by omega) (by omega) ⟨hx1, hx2⟩ ⟨hy1, hy2⟩ HX.out.1 hY⟩
      obtain ⟨HY⟩ : Nonempty (Hid (Sep Y ∧ (∀ x, inS Y x ↔ inP b x) ∧ Rights b)) := ⟨⟨hY, hinY, hR⟩⟩
      have hb12 := hb1.trans (hb2.mono hb1.size)
      clear hj hY hinY hR hpy hownY HSP2 hb1 hb2
      go_wp2_with fail
      refine HW.out.mono ?_
      rintro e w3 ⟨⟨E, vt, rfl, hup, hmem, hownT⟩, hb3⟩
      have hb13 := hb12.trans (hb3.mono hb12.size)
      obtain ⟨hsepT, hinT⟩ := where_facts q HFF.out X Y E hup (fun s hs => by have := edgesL_mem hs; exact ⟨(hmem _).2 (List.mem_append_left _ this.1), (hmem _).2 (List.mem_append_left _ this.2)⟩) (fun s hs => by have := edgesL_mem hs; exact ⟨(hmem _).2 (List.mem_append_right _ this.1), (hmem _).2 (List.mem_append_right _ this.2)⟩)
      have eX : ∀ z, inSB X z = inPB a z := fun z => bool_of_iff (inSB_iff _ _) (inPB_iff _ _) (HX.out.2.1 z)
      have eY : ∀ z, inSB Y z = inPB b z := fun z => bool_of_iff (inSB_iff _ _) (inPB_iff _ _) (HY.out.2.1 z)
      obtain ⟨T, hT⟩ : ∃ T, Hid (joinS (cutsW (fun a => q (inSB X a) (inSB Y a)) E) = T) := ⟨_, show _ = _ from rfl⟩
      rw [show joinS (cutsW (fun a => q (inSB X a) (inSB Y a)) E) = T from hT.out] at hsepT hinT hownT
      have hinT' : ∀ z, inS T z ↔ askB q a b z = true := fun z => by rw [hinT]; unfold askB; rw [eX, eY]
      have hbd : ∀ s ∈ T, 0 ≤ s.1 ∧ s.2 ≤ 4294967296 := sep_bound hsepT (fun z hz => by
        have h1 := (hinT' z).1 hz
        unfold askB at h1
        cases ha : inPB a z with
        | true => exact right_in HX.out.2.2.1 ((inPB_iff _ _).1 ha)
        | false =>
          cases hb : inPB b z with
          | true => exact right_in HY.out.2.2 ((inPB_iff _ _).1 hb)
          | false => rw [ha, hb, HFF.out] at h1; simp at h1)
      have hTl := sep_length T 0 hsepT (fun s hs => hbd s hs) (by omega)
      obtain ⟨qt, ct, rfl, ht1, ht2, hpt⟩ := own_pairs hownT
      obtain ⟨HPO⟩ : Nonempty (Hid (Calls _ _ _ _ _)) := ⟨prefixesOf_any T qt ct et eb es w3 (HE.out.below hb13) hpt (by omega) hsepT hbd⟩
      obtain ⟨HTT⟩ : Nonempty (Hid (Sep T ∧ (∀ x, inS T x ↔ askB q a b x = true) ∧ ∀ s ∈ T, 0 ≤ s.1 ∧ s.2 ≤ 4294967296)) := ⟨⟨hsepT, hinT', hbd⟩⟩
      clear hsepT hinT hinT' hbd hpt hownT hup hmem eX eY HW hT hb12 hb3 hTl
      go_wp2_with fail
      refine HPO.out.mono ?_
      rintro e w4 ⟨⟨L, v, rfl, hTi, hown4⟩, hb4⟩
      have hb := hb13.trans (hb4.mono hb13.size)
      obtain ⟨q2, c2, hv2, h1, h2, hp2⟩ := own_pairs hown4
      obtain ⟨f1, -, f3⟩ := hTi.facts HTT.out.1 HTT.out.2.2
      obtain ⟨HF⟩ : Nonempty (Hid (Holdn w4 v L (askB q a b))) := ⟨f1, fun x => by rw [f3, HTT.out.2.1], ⟨q2, c2, hv2, h1, h2, hp2⟩, own_kind hown4, own_typed hown4⟩
      clear hTi hown4 hv2 h1 h2 hp2 f1 f3 hb4 hb13 HPO
      go_wp2
      exact bodyPost_ret (v := .tuple #[v, .nilIface]) (by simp [results, Tryd.results64, go_sem]) rfl ⟨.inl ⟨HI.out, HJ.out, L, v, rfl, HF.out⟩, hb⟩
    · have hb12 := hb1.trans (hb2.mono hb1.size)
      obtain ⟨HF⟩ : Nonempty (Hid (Faults w2 (.iface 29 (.pointer (some ⟨bb, 0, none⟩))) b j eb es)) := ⟨h, bb, rfl, hrow⟩
      clear hrow HSP2 hb1 hb2
      go_wp2
      exact bodyPost_ret (v := .tuple #[.slice none 0 0, .iface 29 (.pointer (some ⟨bb, 0, none⟩))]) (by simp [results, Tryd.results64, go_sem]) rfl ⟨.inr (.inr ⟨HI.out, _, rfl, HF.out⟩), hb12⟩
  · obtain ⟨HF⟩ : Nonempty (Hid (Faults w1 (.iface 29 (.pointer (some ⟨bb, 0, none⟩))) a i eb es)) := ⟨h, bb, rfl, hrow⟩
    clear hrow HSP
    go_wp2
    exact bodyPost_ret (v := .tuple #[.slice none 0 0, .iface 29 (.pointer (some ⟨bb, 0, none⟩))]) (by simp [results, Tryd.results64, go_sem]) rfl ⟨.inr (.inl ⟨_, rfl, HF.out⟩), hb1⟩
end Go.Proofs.YthehpnhjfnenoaaDoor
