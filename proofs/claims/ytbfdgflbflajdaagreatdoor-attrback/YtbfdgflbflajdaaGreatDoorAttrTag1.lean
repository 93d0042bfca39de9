/-
  Package attr's Tag: the change that it makes.
-/
import Derived.Test.YtbfdgflbflajdaaGreatDoorAttrLead1
import Derived.Test.YtbfdgflbflajdaaGreatDoorAttrInsert
namespace Go.Proofs.YtbfdgflbflajdaaGreatDoor
open Go.RowKit

/-- a tag among rising ones. -/
def tagPos (T : List Int) (x : Int) : Nat := T.countP (· < x)
def tagIns (T : List Int) (x : Int) : List Int := if T.contains x then T else T.take (tagPos T x) ++ x :: T.drop (tagPos T x)
def tagC (A : At) (x : Int) : Int :=
  if 0 < (faultA A).1 then (faultA A).1
  else if x < 1 ∨ 9999 < x then 2
  else if A.tags.contains x then 0
  else if 8 ≤ A.tags.length then 7 else 0
def tagA (A : At) (x : Int) : At := { A with tags := tagIns A.tags x }
theorem tagC_bound {A : At} (hA : RightA A) {x : Int} (h : x < 1 ∨ 9999 < x) : tagC A x = 2 := by
  unfold tagC; rw [fault_of_right hA, if_neg (by decide), if_pos h]
theorem tagC_there {A : At} (hA : RightA A) {x : Int} (h : ¬ (x < 1 ∨ 9999 < x)) (hc : A.tags.contains x = true) : tagC A x = 0 ∧ tagA A x = A := by
  constructor
  · unfold tagC; rw [fault_of_right hA, if_neg (by decide), if_neg h, if_pos hc]
  · unfold tagA tagIns; rw [if_pos hc]
theorem tagC_full {A : At} (hA : RightA A) {x : Int} (h : ¬ (x < 1 ∨ 9999 < x)) (hc : A.tags.contains x = false) (hf : 8 ≤ A.tags.length) : tagC A x = 7 := by
  unfold tagC; rw [fault_of_right hA, if_neg (by decide), if_neg h, if_neg (by rw [hc]; decide), if_pos hf]
theorem tagC_new {A : At} (hA : RightA A) {x : Int} (h : ¬ (x < 1 ∨ 9999 < x)) (hc : A.tags.contains x = false) (hf : ¬ 8 ≤ A.tags.length) : tagC A x = 0 ∧ tagA A x = { A with tags := A.tags.take (tagPos A.tags x) ++ x :: A.tags.drop (tagPos A.tags x) } := by
  constructor
  · unfold tagC; rw [fault_of_right hA, if_neg (by decide), if_neg h, if_neg (by rw [hc]; decide), if_neg hf]
  · unfold tagA tagIns; rw [if_neg (by rw [hc]; decide)]
theorem rise_pair {T : List Int} (h : ∀ j (h : j + 1 < T.length), T[j] < T[j + 1]) : T.Pairwise (· < ·) := by
  induction T with
  | nil => exact List.Pairwise.nil
  | cons a T ih =>
    have ih' := ih (fun j hj => h (j + 1) (by simpa using hj))
    refine List.Pairwise.cons ?_ ih'
    intro b hb
    cases T with
    | nil => simp at hb
    | cons c T =>
      have hac : a < c := h 0 (by simp)
      rcases List.mem_cons.1 hb with rfl | hb
      · exact hac
      · have := (List.pairwise_cons.1 ih').1 b hb
        omega
theorem rise_le {T : List Int} (h : ∀ j (h : j + 1 < T.length), T[j] < T[j + 1]) : T.Pairwise (· ≤ ·) := (rise_pair h).imp (fun h => by omega)
theorem enters_tag : ∀ args w, (callFunc 49 args).run Tryz.prog w = .ok (.enter 49 args) w := fun args w => by kernel_rfl
/-- slices.BinarySearch of rising numbers, in the words of these proofs. -/
theorem search_any (p : Option Addr) (L : List Int) (c : Nat) (x : Int) (w : World) (h : Ints w p L) (hl : L.length ≤ 1000000) (hs : L.Pairwise (· ≤ ·)) :
    Calls Tryz.prog 51 #[.slice p L.length c, .int .i64 x] w fun r w' => r = .returned (.tuple #[.int .i64 ((tagPos L x : Nat) : Int), .bool (L.contains x)]) ∧ ∃ k, w' = w.drewN k := by
  by_cases h0 : L.length = 0
  · have e1 : L = [] := List.eq_nil_of_length_eq_zero h0
    subst e1
    exact (Tryz.slices_BinarySearch_int_empty p c x w).mono fun e w' ⟨he, hw⟩ => ⟨he, 0, hw⟩
  · obtain ⟨b, o, rfl, hc⟩ := ints_at h (by omega)
    refine (Tryz.slices_BinarySearch_int b o L.length c L x w (Nat.le_refl _) (by omega) hc (by rw [List.take_length]; exact hs)).mono fun e w' ⟨he, hw⟩ => ⟨?_, hw⟩
    rw [he, List.take_length]
    rfl

/-- the state while a tag is put among the tags. -/
def LT (W wr : World) (B C S : Nat) (A : At) (p : Option Addr) (q : Option Addr) (cq : Nat) : Prop :=
  LS W wr B C ∧ wr.ownsRow S 3 1 (.slice q A.tags.length cq) A.tags.length (A.tags.map intV) ∧ Ints wr p A.path ∧ (∀ b o, p = some ⟨b, o, none⟩ → b < S) ∧ B ≤ S ∧ S ≤ wr.heap.size
theorem LT.on {W wr w' : World} {B C S : Nat} {A : At} {p q : Option Addr} {cq : Nat} (h : LT W wr B C S A p q cq) (hb : Below wr.heap.size wr w') : LT W w' B C S A p q cq :=
  ⟨h.1.on hb h.1.2.2.2, aOwn_below h.2.1 hb, h.2.2.1.below hb, h.2.2.2.1, h.2.2.2.2.1, Nat.le_trans h.2.2.2.2.2 hb.size⟩
theorem Ints.low {w w' : World} {p : Option Addr} {L : List Int} {S : Nat} (h : Ints w p L) (hb : Below S w w') (hp : ∀ b o, p = some ⟨b, o, none⟩ → b < S) : Ints w' p L := fun i hi => by
  obtain ⟨b, o, e, c⟩ := h i hi
  exact ⟨b, o, e, by rw [hb.cell (p := ⟨b, o + i, none⟩) (hp b o e)]; exact c⟩
theorem lt_ar {W wr : World} {B C S : Nat} {A : At} {p q : Option Addr} {cp cq : Nat} (h : LH W B C A p cp q cq) (hl : LT W wr B C S A p q cq) : AR wr B C A := by
  obtain ⟨q', c', e, k1, i1, f1⟩ := own_kind' hl.2.1
  simp only [Value.slice.injEq, true_and] at e
  obtain ⟨rfl, rfl⟩ := e
  exact ⟨p, cp, q, cq, by rw [hl.1.2.1]; exact h.1, hl.2.2.1, i1, h.2.2.2.1, h.2.2.2.2.1, h.2.2.2.2.2.1, h.2.2.2.2.2.2.1⟩
theorem tag_end {W wr : World} {B C S : Nat} {A : At} {p q q1 : Option Addr} {cp cq c1 : Nat} {O : List Int} (h : LH W B C A p cp q cq) (hs : LS W wr B C) (hp : Ints wr p A.path) (hO : wr.ownsRow S 3 1 (.slice q1 O.length c1) O.length (O.map intV)) (hS : B ≤ S) (hn : ∀ b o, q1 = some ⟨b, o, none⟩ → b ≠ C) {wf : World} (hwf : wr.setCell ⟨C, 4, none⟩ (.slice q1 O.length c1) = wf) :
    Below B W wf ∧ AR wf B C { A with tags := O } := by
  subst hwf
  obtain ⟨p2, c2, e, k1, i1, f1⟩ := own_kind' hO
  simp only [Value.slice.injEq, true_and] at e
  obtain ⟨rfl, rfl⟩ := e
  have hh : wr.heap[C]? = _ := hs.2.1.trans h.1
  have h1 := heap_setCell_same wr C 4 _ _ (.slice q1 O.length c1) hh
  simp only [List.setIfInBounds_toArray, List.set_cons_zero, List.set_cons_succ] at h1
  exact ⟨hs.1.setCell hs.2.2.1 _, p, cp, q1, c1, h1, hp.setNe (fun b o e => (h.2.2.2.2.2.1 b o e).2) _ _, i1.setNe hn _ _, h.2.2.2.1, k1, h.2.2.2.2.2.1, fun b o e => ⟨by have := f1 b o e; omega, hn b o e⟩⟩
/-- what stands behind a tag's insertion. -/
theorem ins_stands {W wr w' : World} {B C S : Nat} {A : At} {p q q1 : Option Addr} {cp cq c1 : Nat} {O : List Int} (h : LH W B C A p cp q cq) (hl : LT W wr B C S A p q cq) (hb : Below S wr w')
    (hv : ∀ b, (Value.slice q1 O.length c1).ownBlock = some b → q = some ⟨b, 0, none⟩ ∨ wr.heap.size ≤ b) (hk : ∀ b, b < wr.heap.size → q ≠ some ⟨b, 0, none⟩ → w'.heap[b]? = wr.heap[b]?) :
    LS W w' B C ∧ ∀ b o, q1 = some ⟨b, o, none⟩ → b ≠ C := by
  have hC := hl.1.2.2.2
  refine ⟨⟨hl.1.1.trans (hb.mono hl.2.2.2.2.1), ?_, hl.1.2.2.1, Nat.lt_of_lt_of_le hC hb.size⟩, fun b o e hbc => ?_⟩
  · rw [hk C hC (fun e => (h.2.2.2.2.2.2.1 _ _ e).2 rfl)]; exact hl.1.2.1
  · subst hbc
    rcases hv b (by rw [e]; rfl) with e' | e'
    · exact (h.2.2.2.2.2.2.1 _ _ e').2 rfl
    · omega

set_option linter.unusedSimpArgs false in
set_option linter.unusedVariables false in
set_option maxRecDepth 100000 in
set_option maxHeartbeats 8000000 in
theorem tag_changer (A : At) (x : Int) (X1 : Nat) (E : Nat → Addr) (m : Int) (w : World) (hE : AttrEnv w E m) (hA : RightA A) (h1 : w.cell? ⟨X1, 0, none⟩ = some (.int .i64 x)) :
    Changer1 49 (.pointer (some ⟨X1, 0, none⟩)) E (tagC A x).toNat A (tagA A x) w := by
  refine ⟨enters_tag, fun B C W hwB hb hap => ?_⟩
  have c1 := cell_kept hb h1
  have l1 := cell_lt' h1
  have HEB : Hid (∀ wr, LS W wr B C → wr.cell? ⟨0, 0, none⟩ = some (.iface 224 (.pointer (some (E 6))))) := fun wr h => cell_kept (hb.trans (h.1.mono hwB)) hE.full
  have eb := cell_kept hb hE.bound
  replace l1 := Nat.lt_of_lt_of_le l1 hwB
  have har := ap_ar hap
  obtain ⟨p, cp, q, cq, hh, ⟨S, o1, o2, s1, s2, s3⟩, -, -, hbc⟩ := hap
  obtain ⟨HAR⟩ : Nonempty (Hid (AR W B C A)) := ⟨har⟩
  obtain ⟨p', cp', q', cq', hh', i1, i2, k1, k2, n1, n2⟩ := har
  rw [hh] at hh'
  simp only [Option.some.injEq, Obj.cells.injEq, Array.mk.injEq, List.cons.injEq, Value.slice.injEq, and_true, true_and] at hh'
  obtain ⟨⟨rfl, rfl⟩, rfl, rfl⟩ := hh'
  have W1 := isTag_any x W
  obtain ⟨HA⟩ : Nonempty (Hid (RightA A)) := ⟨hA⟩
  simp only at c1 l1
  have htl := hA.tags
  clear hE hb hA o1 hwB
  cases hx1 : inB3 x 1 9999 with
  | false =>
    have hbd : x < 1 ∨ 9999 < x := by simp [inB3] at hx1; omega
    rw [tagC_bound HA.out hbd]
    rw [hx1] at W1
    obtain ⟨HW1⟩ : Nonempty (Hid (Calls _ _ _ _ _)) := ⟨W1⟩
    clear W1 hbd hh i1 i2 k1 k2 n1 n2 o2
    go_enter Tryz.func49, Tryz.ntmps49
    go_wp2_with fail
    refine HW1.out.mono ?_
    rintro e w1 ⟨rfl, rfl⟩
    go_wp2_with fail
    go_ret
    exact ⟨rfl, Below.refl _ _, fun h => absurd h (by decide)⟩
  | true =>
    have hbd : ¬ (x < 1 ∨ 9999 < x) := by simp [inB3] at hx1; omega
    rw [hx1] at W1
    obtain ⟨HW1⟩ : Nonempty (Hid (Calls _ _ _ _ _)) := ⟨W1⟩
    have hsz : C < W.heap.size := (Array.getElem?_eq_some_iff.1 hh).1
    obtain ⟨HH⟩ : Nonempty (Hid (LH W B C A p cp q cq)) := ⟨⟨hh, i1, i2, k1, k2, n1, n2, hbc, hsz⟩⟩
    obtain ⟨HLT⟩ : Nonempty (Hid (LT W W B C S A p q cq)) := ⟨⟨⟨Below.refl _ _, rfl, hbc, hsz⟩, o2, i1, s2, s1, s3⟩⟩
    obtain ⟨HX⟩ : Nonempty (Hid (∀ wr, LS W wr B C → wr.cell? ⟨X1, 0, none⟩ = some (.int .i64 x))) := ⟨fun wr h => by rw [h.1.cell (p := ⟨X1, 0, none⟩) l1]; exact c1⟩
    have HSR : Hid (∀ wr, LT W wr B C S A p q cq → Calls _ _ _ _ _) := fun wr h => search_any q A.tags cq x wr (by obtain ⟨q', c', e, k1, i1, f1⟩ := own_kind' h.2.1; simp only [Value.slice.injEq, true_and] at e; rw [e.1]; exact i1) (by omega) (rise_le HA.out.rise)
    obtain ⟨ps, hps⟩ : ∃ n, Hid (tagPos A.tags x = n) := ⟨_, show _ = _ from rfl⟩
    have hpsl : ps ≤ A.tags.length := by rw [← hps.out]; exact List.countP_le_length
    rw [show tagPos A.tags x = ps from hps.out] at HSR
    have a4 := (HH.out.cells HLT.out.1).2
    obtain ⟨HLD⟩ : Nonempty (Hid (LT W W.drew B C S A p q cq)) := ⟨HLT.out.on (Below.refl _ _).drew⟩
    obtain ⟨HB4⟩ : Nonempty (Hid (∀ wr, LS W wr B C → wr.cell? ⟨C, 4, none⟩ = some (.slice q A.tags.length cq) ∧ wr.cell? ⟨X1, 0, none⟩ = some (.int .i64 x))) := ⟨fun wr h => ⟨(HH.out.cells h).2, HX.out wr h⟩⟩
    clear W1 hh i1 i2 k1 k2 n1 n2 o2 a4
    cases hct : A.tags.contains x with
    | true =>
      obtain ⟨e1, e2⟩ := tagC_there HA.out hbd hct
      rw [e1, e2]
      rw [hct] at HSR
      clear e1 e2 hct hbd
      go_enter Tryz.func49, Tryz.ntmps49
      go_wp2_with fail
      refine HW1.out.mono ?_
      rintro e w1 ⟨rfl, hw1⟩
      replace hw1 := hw1.symm
      subst hw1
      go_upto_region 3 with fail
      refine wp_region_noPanic ?_
      refine wp_region_held_drew (S := (fun w' => w'.cell? ⟨C, 4, none⟩ = some (.slice q A.tags.length cq) ∧ w'.cell? ⟨X1, 0, none⟩ = some (.int .i64 x))) (by kernel_rfl) ?_ (fun hHeld => ?_)
      · exact HB4.out _ HLD.out.1
      refine wpAnyH_take (i := 0) (v := ?_) rfl (by kernel_rfl) (by kernel_rfl) (by kernel_rfl) (fun _ _ _ h => h) (Or.inl ⟨by rfl, ?_⟩) (by assumption) ?_
      rotate_left
      · (intro w hSw; (try dsimp only at hSw); go_simp; try (with_reducible rfl))
      try simp only [Act.put, List.setIfInBounds_toArray, List.set_cons_zero, List.set_cons_succ, List.getElem_toArray, List.getElem_cons_zero, List.getElem_cons_succ]
      refine wpAnyH_take (i := 1) (v := ?_) rfl (by kernel_rfl) (by kernel_rfl) (by kernel_rfl) (fun _ _ _ h => h) (Or.inl ⟨by rfl, ?_⟩) (by assumption) ?_
      rotate_left
      · (intro w hSw; (try dsimp only at hSw); go_simp; try (with_reducible rfl))
      try simp only [Act.put, List.setIfInBounds_toArray, List.set_cons_zero, List.set_cons_succ, List.getElem_toArray, List.getElem_cons_zero, List.getElem_cons_succ]
      refine wpAnyH_take (i := 2) (v := ?_) rfl (by kernel_rfl) (by kernel_rfl) (by kernel_rfl) (fun _ _ _ h => h) (Or.inl ⟨by rfl, ?_⟩) (by assumption) ?_
      rotate_left
      · (intro w hSw; (try dsimp only at hSw); go_simp; try (with_reducible rfl))
      try simp only [Act.put, List.setIfInBounds_toArray, List.set_cons_zero, List.set_cons_succ, List.getElem_toArray, List.getElem_cons_zero, List.getElem_cons_succ]
      refine wpAnyH_take (i := 3) (v := ?_) rfl (by kernel_rfl) (by kernel_rfl) (by kernel_rfl) (fun _ _ _ h => h) (Or.inl ⟨by rfl, ?_⟩) (by assumption) ?_
      rotate_left
      · (intro w hSw; (try dsimp only at hSw); go_simp; try (with_reducible rfl))
      try simp only [Act.put, List.setIfInBounds_toArray, List.set_cons_zero, List.set_cons_succ, List.getElem_toArray, List.getElem_cons_zero, List.getElem_cons_succ]
      refine wpAnyH_take (i := 4) (v := ?_) rfl (by kernel_rfl) (by kernel_rfl) (by kernel_rfl) (fun _ _ _ h => h) (Or.inl ⟨by rfl, ?_⟩) (by assumption) ?_
      rotate_left
      · (intro w hSw; (try dsimp only at hSw); go_simp; try (with_reducible rfl))
      try simp only [Act.put, List.setIfInBounds_toArray, List.set_cons_zero, List.set_cons_succ, List.getElem_toArray, List.getElem_cons_zero, List.getElem_cons_succ]
      refine wpAnyH_ready (rs := [5]) (by kernel_rfl) (by simp) ?_
      refine AllReadyH.cons rfl (fun K hK => ?_) AllReadyH.nil
      go_simp
      refine (HSR.out _ HLD.out).mono ?_
      rintro r x9 ⟨rfl, kq, hx9⟩
      obtain ⟨HL9⟩ : Nonempty (Hid (LT W x9 B C S A p q cq)) := ⟨by rw [hx9]; exact HLD.out.on (below_drewN (Below.refl _ _) _)⟩
      clear hx9
      refine hK.out _ _ ?_ (fun hHeld => ?_)
      · exact HB4.out _ HL9.out.1
      clear hK K
      try simp only [Act.put, List.setIfInBounds_toArray, List.set_cons_zero, List.set_cons_succ, List.getElem_toArray, List.getElem_cons_zero, List.getElem_cons_succ]
      refine wpAnyH_take (i := 6) (v := ?_) rfl (by kernel_rfl) (by kernel_rfl) (by kernel_rfl) (fun _ _ _ h => h) (Or.inl ⟨by rfl, ?_⟩) (by assumption) ?_
      rotate_left
      · (intro w hSw; (try dsimp only at hSw); go_simp; try (with_reducible rfl))
      try simp only [Act.put, List.setIfInBounds_toArray, List.set_cons_zero, List.set_cons_succ, List.getElem_toArray, List.getElem_cons_zero, List.getElem_cons_succ]
      refine wpAnyH_take (i := 7) (v := ?_) rfl (by kernel_rfl) (by kernel_rfl) (by kernel_rfl) (fun _ _ _ h => h) (Or.inl ⟨by rfl, ?_⟩) (by assumption) ?_
      rotate_left
      · (intro w hSw; (try dsimp only at hSw); go_simp; try (with_reducible rfl))
      try simp only [Act.put, List.setIfInBounds_toArray, List.set_cons_zero, List.set_cons_succ, List.getElem_toArray, List.getElem_cons_zero, List.getElem_cons_succ]
      refine wpAnyH_take (i := 8) (v := ?_) rfl (by kernel_rfl) (by kernel_rfl) (by kernel_rfl) (fun _ _ _ h => h) (Or.inl ⟨by rfl, ?_⟩) (by assumption) ?_
      rotate_left
      · (intro w hSw; (try dsimp only at hSw); go_simp; try (with_reducible rfl))
      try simp only [Act.put, List.setIfInBounds_toArray, List.set_cons_zero, List.set_cons_succ, List.getElem_toArray, List.getElem_cons_zero, List.getElem_cons_succ]
      refine wpAnyH_take (i := 9) (v := ?_) rfl (by kernel_rfl) (by kernel_rfl) (by kernel_rfl) (fun _ _ _ h => h) (Or.inl ⟨by rfl, ?_⟩) (by assumption) ?_
      rotate_left
      · (intro w hSw; (try dsimp only at hSw); go_simp; try (with_reducible rfl))
      try simp only [Act.put, List.setIfInBounds_toArray, List.set_cons_zero, List.set_cons_succ, List.getElem_toArray, List.getElem_cons_zero, List.getElem_cons_succ]
      refine wpAnyH_take (i := 10) (v := ?_) rfl (by kernel_rfl) (by kernel_rfl) (by kernel_rfl) (fun _ _ _ h => h) (Or.inl ⟨by rfl, ?_⟩) (by assumption) ?_
      rotate_left
      · (intro w hSw; (try dsimp only at hSw); go_simp; try (with_reducible rfl))
      try simp only [Act.put, List.setIfInBounds_toArray, List.set_cons_zero, List.set_cons_succ, List.getElem_toArray, List.getElem_cons_zero, List.getElem_cons_succ]
      refine wpAnyH_done (by kernel_rfl) ?_ _
      refine NoPanic.normal ?_
      clear hHeld
      go_wp2_with fail
      go_ret
      exact ⟨rfl, HL9.out.1.1, fun _ => lt_ar HH.out HL9.out⟩
    | false =>
      rw [hct] at HSR
      by_cases hfl : 8 ≤ A.tags.length
      · have hfl' : ((A.tags.length : Int) == 8) = true := by rw [beq_iff_eq]; omega
        rw [tagC_full HA.out hbd hct hfl]
        clear hct hbd hfl
        go_enter Tryz.func49, Tryz.ntmps49
        go_wp2_with fail
        refine HW1.out.mono ?_
        rintro e w1 ⟨rfl, hw1⟩
        replace hw1 := hw1.symm
        subst hw1
        go_upto_region 3 with fail
        refine wp_region_noPanic ?_
        refine wp_region_held_drew (S := (fun w' => w'.cell? ⟨C, 4, none⟩ = some (.slice q A.tags.length cq) ∧ w'.cell? ⟨X1, 0, none⟩ = some (.int .i64 x))) (by kernel_rfl) ?_ (fun hHeld => ?_)
        · exact HB4.out _ HLD.out.1
        refine wpAnyH_take (i := 0) (v := ?_) rfl (by kernel_rfl) (by kernel_rfl) (by kernel_rfl) (fun _ _ _ h => h) (Or.inl ⟨by rfl, ?_⟩) (by assumption) ?_
        rotate_left
        · (intro w hSw; (try dsimp only at hSw); go_simp; try (with_reducible rfl))
        try simp only [Act.put, List.setIfInBounds_toArray, List.set_cons_zero, List.set_cons_succ, List.getElem_toArray, List.getElem_cons_zero, List.getElem_cons_succ]
        refine wpAnyH_take (i := 1) (v := ?_) rfl (by kernel_rfl) (by kernel_rfl) (by kernel_rfl) (fun _ _ _ h => h) (Or.inl ⟨by rfl, ?_⟩) (by assumption) ?_
        rotate_left
        · (intro w hSw; (try dsimp only at hSw); go_simp; try (with_reducible rfl))
        try simp only [Act.put, List.setIfInBounds_toArray, List.set_cons_zero, List.set_cons_succ, List.getElem_toArray, List.getElem_cons_zero, List.getElem_cons_succ]
        refine wpAnyH_take (i := 2) (v := ?_) rfl (by kernel_rfl) (by kernel_rfl) (by kernel_rfl) (fun _ _ _ h => h) (Or.inl ⟨by rfl, ?_⟩) (by assumption) ?_
        rotate_left
        · (intro w hSw; (try dsimp only at hSw); go_simp; try (with_reducible rfl))
        try simp only [Act.put, List.setIfInBounds_toArray, List.set_cons_zero, List.set_cons_succ, List.getElem_toArray, List.getElem_cons_zero, List.getElem_cons_succ]
        refine wpAnyH_take (i := 3) (v := ?_) rfl (by kernel_rfl) (by kernel_rfl) (by kernel_rfl) (fun _ _ _ h => h) (Or.inl ⟨by rfl, ?_⟩) (by assumption) ?_
        rotate_left
        · (intro w hSw; (try dsimp only at hSw); go_simp; try (with_reducible rfl))
        try simp only [Act.put, List.setIfInBounds_toArray, List.set_cons_zero, List.set_cons_succ, List.getElem_toArray, List.getElem_cons_zero, List.getElem_cons_succ]
        refine wpAnyH_take (i := 4) (v := ?_) rfl (by kernel_rfl) (by kernel_rfl) (by kernel_rfl) (fun _ _ _ h => h) (Or.inl ⟨by rfl, ?_⟩) (by assumption) ?_
        rotate_left
        · (intro w hSw; (try dsimp only at hSw); go_simp; try (with_reducible rfl))
        try simp only [Act.put, List.setIfInBounds_toArray, List.set_cons_zero, List.set_cons_succ, List.getElem_toArray, List.getElem_cons_zero, List.getElem_cons_succ]
        refine wpAnyH_ready (rs := [5]) (by kernel_rfl) (by simp) ?_
        refine AllReadyH.cons rfl (fun K hK => ?_) AllReadyH.nil
        go_simp
        refine (HSR.out _ HLD.out).mono ?_
        rintro r x9 ⟨rfl, kq, hx9⟩
        obtain ⟨HL9⟩ : Nonempty (Hid (LT W x9 B C S A p q cq)) := ⟨by rw [hx9]; exact HLD.out.on (below_drewN (Below.refl _ _) _)⟩
        clear hx9
        refine hK.out _ _ ?_ (fun hHeld => ?_)
        · exact HB4.out _ HL9.out.1
        clear hK K
        try simp only [Act.put, List.setIfInBounds_toArray, List.set_cons_zero, List.set_cons_succ, List.getElem_toArray, List.getElem_cons_zero, List.getElem_cons_succ]
        refine wpAnyH_take (i := 6) (v := ?_) rfl (by kernel_rfl) (by kernel_rfl) (by kernel_rfl) (fun _ _ _ h => h) (Or.inl ⟨by rfl, ?_⟩) (by assumption) ?_
        rotate_left
        · (intro w hSw; (try dsimp only at hSw); go_simp; try (with_reducible rfl))
        try simp only [Act.put, List.setIfInBounds_toArray, List.set_cons_zero, List.set_cons_succ, List.getElem_toArray, List.getElem_cons_zero, List.getElem_cons_succ]
        refine wpAnyH_take (i := 7) (v := ?_) rfl (by kernel_rfl) (by kernel_rfl) (by kernel_rfl) (fun _ _ _ h => h) (Or.inl ⟨by rfl, ?_⟩) (by assumption) ?_
        rotate_left
        · (intro w hSw; (try dsimp only at hSw); go_simp; try (with_reducible rfl))
        try simp only [Act.put, List.setIfInBounds_toArray, List.set_cons_zero, List.set_cons_succ, List.getElem_toArray, List.getElem_cons_zero, List.getElem_cons_succ]
        refine wpAnyH_take (i := 8) (v := ?_) rfl (by kernel_rfl) (by kernel_rfl) (by kernel_rfl) (fun _ _ _ h => h) (Or.inl ⟨by rfl, ?_⟩) (by assumption) ?_
        rotate_left
        · (intro w hSw; (try dsimp only at hSw); go_simp; try (with_reducible rfl))
        try simp only [Act.put, List.setIfInBounds_toArray, List.set_cons_zero, List.set_cons_succ, List.getElem_toArray, List.getElem_cons_zero, List.getElem_cons_succ]
        refine wpAnyH_take (i := 9) (v := ?_) rfl (by kernel_rfl) (by kernel_rfl) (by kernel_rfl) (fun _ _ _ h => h) (Or.inl ⟨by rfl, ?_⟩) (by assumption) ?_
        rotate_left
        · (intro w hSw; (try dsimp only at hSw); go_simp; try (with_reducible rfl))
        try simp only [Act.put, List.setIfInBounds_toArray, List.set_cons_zero, List.set_cons_succ, List.getElem_toArray, List.getElem_cons_zero, List.getElem_cons_succ]
        refine wpAnyH_take (i := 10) (v := ?_) rfl (by kernel_rfl) (by kernel_rfl) (by kernel_rfl) (fun _ _ _ h => h) (Or.inl ⟨by rfl, ?_⟩) (by assumption) ?_
        rotate_left
        · (intro w hSw; (try dsimp only at hSw); go_simp; try (with_reducible rfl))
        try simp only [Act.put, List.setIfInBounds_toArray, List.set_cons_zero, List.set_cons_succ, List.getElem_toArray, List.getElem_cons_zero, List.getElem_cons_succ]
        refine wpAnyH_done (by kernel_rfl) ?_ _
        refine NoPanic.normal ?_
        clear hHeld
        have a4 := (HB4.out x9 HL9.out.1).1
        have ef := HEB.out x9 HL9.out.1
        go_wp2_with fail
        go_ret
        exact ⟨rfl, HL9.out.1.1, fun h => absurd h (by decide)⟩
      · have hfl' : ((A.tags.length : Int) == 8) = false := by rw [beq_eq_false_iff_ne]; omega
        obtain ⟨e1, e2⟩ := tagC_new HA.out hbd hct hfl
        rw [e1, e2, show tagPos A.tags x = ps from hps.out]
        obtain ⟨O', hO'⟩ : ∃ O', Hid (A.tags.take ps ++ x :: A.tags.drop ps = O') := ⟨_, show _ = _ from rfl⟩
        have hOl : O'.length = A.tags.length + 1 := by rw [← hO'.out]; exact ins_len _ _ _ hpsl
        obtain ⟨HOL⟩ : Nonempty (Hid (_ = _)) := ⟨hOl⟩
        rw [show A.tags.take ps ++ x :: A.tags.drop ps = O' from hO'.out]
        clear hct hbd hfl e1 e2 hOl
        go_enter Tryz.func49, Tryz.ntmps49
        go_wp2_with fail
        refine HW1.out.mono ?_
        rintro e w1 ⟨rfl, hw1⟩
        replace hw1 := hw1.symm
        subst hw1
        go_upto_region 3 with fail
        refine wp_region_noPanic ?_
        refine wp_region_held_drew (S := (fun w' => w'.cell? ⟨C, 4, none⟩ = some (.slice q A.tags.length cq) ∧ w'.cell? ⟨X1, 0, none⟩ = some (.int .i64 x))) (by kernel_rfl) ?_ (fun hHeld => ?_)
        · exact HB4.out _ HLD.out.1
        refine wpAnyH_take (i := 0) (v := ?_) rfl (by kernel_rfl) (by kernel_rfl) (by kernel_rfl) (fun _ _ _ h => h) (Or.inl ⟨by rfl, ?_⟩) (by assumption) ?_
        rotate_left
        · (intro w hSw; (try dsimp only at hSw); go_simp; try (with_reducible rfl))
        try simp only [Act.put, List.setIfInBounds_toArray, List.set_cons_zero, List.set_cons_succ, List.getElem_toArray, List.getElem_cons_zero, List.getElem_cons_succ]
        refine wpAnyH_take (i := 1) (v := ?_) rfl (by kernel_rfl) (by kernel_rfl) (by kernel_rfl) (fun _ _ _ h => h) (Or.inl ⟨by rfl, ?_⟩) (by assumption) ?_
        rotate_left
        · (intro w hSw; (try dsimp only at hSw); go_simp; try (with_reducible rfl))
        try simp only [Act.put, List.setIfInBounds_toArray, List.set_cons_zero, List.set_cons_succ, List.getElem_toArray, List.getElem_cons_zero, List.getElem_cons_succ]
        refine wpAnyH_take (i := 2) (v := ?_) rfl (by kernel_rfl) (by kernel_rfl) (by kernel_rfl) (fun _ _ _ h => h) (Or.inl ⟨by rfl, ?_⟩) (by assumption) ?_
        rotate_left
        · (intro w hSw; (try dsimp only at hSw); go_simp; try (with_reducible rfl))
        try simp only [Act.put, List.setIfInBounds_toArray, List.set_cons_zero, List.set_cons_succ, List.getElem_toArray, List.getElem_cons_zero, List.getElem_cons_succ]
        refine wpAnyH_take (i := 3) (v := ?_) rfl (by kernel_rfl) (by kernel_rfl) (by kernel_rfl) (fun _ _ _ h => h) (Or.inl ⟨by rfl, ?_⟩) (by assumption) ?_
        rotate_left
        · (intro w hSw; (try dsimp only at hSw); go_simp; try (with_reducible rfl))
        try simp only [Act.put, List.setIfInBounds_toArray, List.set_cons_zero, List.set_cons_succ, List.getElem_toArray, List.getElem_cons_zero, List.getElem_cons_succ]
        refine wpAnyH_take (i := 4) (v := ?_) rfl (by kernel_rfl) (by kernel_rfl) (by kernel_rfl) (fun _ _ _ h => h) (Or.inl ⟨by rfl, ?_⟩) (by assumption) ?_
        rotate_left
        · (intro w hSw; (try dsimp only at hSw); go_simp; try (with_reducible rfl))
        try simp only [Act.put, List.setIfInBounds_toArray, List.set_cons_zero, List.set_cons_succ, List.getElem_toArray, List.getElem_cons_zero, List.getElem_cons_succ]
        refine wpAnyH_ready (rs := [5]) (by kernel_rfl) (by simp) ?_
        refine AllReadyH.cons rfl (fun K hK => ?_) AllReadyH.nil
        go_simp
        refine (HSR.out _ HLD.out).mono ?_
        rintro r x9 ⟨rfl, kq, hx9⟩
        obtain ⟨HL9⟩ : Nonempty (Hid (LT W x9 B C S A p q cq)) := ⟨by rw [hx9]; exact HLD.out.on (below_drewN (Below.refl _ _) _)⟩
        clear hx9
        refine hK.out _ _ ?_ (fun hHeld => ?_)
        · exact HB4.out _ HL9.out.1
        clear hK K
        try simp only [Act.put, List.setIfInBounds_toArray, List.set_cons_zero, List.set_cons_succ, List.getElem_toArray, List.getElem_cons_zero, List.getElem_cons_succ]
        refine wpAnyH_take (i := 6) (v := ?_) rfl (by kernel_rfl) (by kernel_rfl) (by kernel_rfl) (fun _ _ _ h => h) (Or.inl ⟨by rfl, ?_⟩) (by assumption) ?_
        rotate_left
        · (intro w hSw; (try dsimp only at hSw); go_simp; try (with_reducible rfl))
        try simp only [Act.put, List.setIfInBounds_toArray, List.set_cons_zero, List.set_cons_succ, List.getElem_toArray, List.getElem_cons_zero, List.getElem_cons_succ]
        refine wpAnyH_take (i := 7) (v := ?_) rfl (by kernel_rfl) (by kernel_rfl) (by kernel_rfl) (fun _ _ _ h => h) (Or.inl ⟨by rfl, ?_⟩) (by assumption) ?_
        rotate_left
        · (intro w hSw; (try dsimp only at hSw); go_simp; try (with_reducible rfl))
        try simp only [Act.put, List.setIfInBounds_toArray, List.set_cons_zero, List.set_cons_succ, List.getElem_toArray, List.getElem_cons_zero, List.getElem_cons_succ]
        refine wpAnyH_take (i := 8) (v := ?_) rfl (by kernel_rfl) (by kernel_rfl) (by kernel_rfl) (fun _ _ _ h => h) (Or.inl ⟨by rfl, ?_⟩) (by assumption) ?_
        rotate_left
        · (intro w hSw; (try dsimp only at hSw); go_simp; try (with_reducible rfl))
        try simp only [Act.put, List.setIfInBounds_toArray, List.set_cons_zero, List.set_cons_succ, List.getElem_toArray, List.getElem_cons_zero, List.getElem_cons_succ]
        refine wpAnyH_take (i := 9) (v := ?_) rfl (by kernel_rfl) (by kernel_rfl) (by kernel_rfl) (fun _ _ _ h => h) (Or.inl ⟨by rfl, ?_⟩) (by assumption) ?_
        rotate_left
        · (intro w hSw; (try dsimp only at hSw); go_simp; try (with_reducible rfl))
        try simp only [Act.put, List.setIfInBounds_toArray, List.set_cons_zero, List.set_cons_succ, List.getElem_toArray, List.getElem_cons_zero, List.getElem_cons_succ]
        refine wpAnyH_take (i := 10) (v := ?_) rfl (by kernel_rfl) (by kernel_rfl) (by kernel_rfl) (fun _ _ _ h => h) (Or.inl ⟨by rfl, ?_⟩) (by assumption) ?_
        rotate_left
        · (intro w hSw; (try dsimp only at hSw); go_simp; try (with_reducible rfl))
        try simp only [Act.put, List.setIfInBounds_toArray, List.set_cons_zero, List.set_cons_succ, List.getElem_toArray, List.getElem_cons_zero, List.getElem_cons_succ]
        refine wpAnyH_done (by kernel_rfl) ?_ _
        refine NoPanic.normal ?_
        clear hHeld
        have a4 := (HB4.out x9 HL9.out.1).1
        go_upto_region 8 with fail
        clear a4
        obtain ⟨HS0⟩ : Nonempty (Hid (LT W x9.drew B C S A p q cq)) := ⟨HL9.out.on (Below.refl _ _).drew⟩
        refine wp_region_noPanic ?_
        refine wp_region_held_drew (S := (fun w' => w'.cell? ⟨X1, 0, none⟩ = some (.int .i64 x))) (by kernel_rfl) ?_ (fun hHeld => ?_)
        · exact HX.out _ HS0.out.1
        refine wpAnyH_take (i := 0) (v := ?_) rfl (by kernel_rfl) (by kernel_rfl) (by kernel_rfl) (fun _ _ _ h => h) (Or.inl ⟨by rfl, ?_⟩) (by assumption) ?_
        rotate_left
        · (intro w hSw; (try dsimp only at hSw); go_simp; try (with_reducible rfl))
        try simp only [Act.put, List.setIfInBounds_toArray, List.set_cons_zero, List.set_cons_succ, List.getElem_toArray, List.getElem_cons_zero, List.getElem_cons_succ]
        refine wpAnyH_take (i := 1) (v := ?_) rfl (by kernel_rfl) (by kernel_rfl) (by kernel_rfl) (fun _ _ _ h => h) (Or.inl ⟨by rfl, ?_⟩) (by assumption) ?_
        rotate_left
        · (intro w hSw; (try dsimp only at hSw); go_simp; try (with_reducible rfl))
        try simp only [Act.put, List.setIfInBounds_toArray, List.set_cons_zero, List.set_cons_succ, List.getElem_toArray, List.getElem_cons_zero, List.getElem_cons_succ]
        refine wpAnyH_take (i := 2) (v := ?_) rfl (by kernel_rfl) (by kernel_rfl) (by kernel_rfl) (fun _ _ _ h => h) (Or.inl ⟨by rfl, ?_⟩) (by assumption) ?_
        rotate_left
        · (intro w hSw; (try dsimp only at hSw); go_simp; try (with_reducible rfl))
        try simp only [Act.put, List.setIfInBounds_toArray, List.set_cons_zero, List.set_cons_succ, List.getElem_toArray, List.getElem_cons_zero, List.getElem_cons_succ]
        refine wpAnyH_take (i := 3) (v := ?_) rfl (by kernel_rfl) (by kernel_rfl) (by kernel_rfl) (fun _ _ _ h => h) (Or.inl ⟨by rfl, ?_⟩) (by assumption) ?_
        rotate_left
        · (intro w hSw; (try dsimp only at hSw); go_simp; try (with_reducible rfl))
        try simp only [Act.put, List.setIfInBounds_toArray, List.set_cons_zero, List.set_cons_succ, List.getElem_toArray, List.getElem_cons_zero, List.getElem_cons_succ]
        refine wpAnyH_take (i := 5) (v := ?_) rfl (by kernel_rfl) (by kernel_rfl) (by kernel_rfl) (fun _ _ _ h => h) (Or.inl ⟨by rfl, ?_⟩) (by assumption) ?_
        rotate_left
        · (intro w hSw; (try dsimp only at hSw); go_simp; try (with_reducible rfl))
        try simp only [Act.put, List.setIfInBounds_toArray, List.set_cons_zero, List.set_cons_succ, List.getElem_toArray, List.getElem_cons_zero, List.getElem_cons_succ]
        refine wpAnyH_take (i := 6) (v := ?_) rfl (by kernel_rfl) (by kernel_rfl) (by kernel_rfl) (fun _ _ _ h => h) (Or.inl ⟨by rfl, ?_⟩) (by assumption) ?_
        rotate_left
        · (intro w hSw; (try dsimp only at hSw); go_simp; try (with_reducible rfl))
        try simp only [Act.put, List.setIfInBounds_toArray, List.set_cons_zero, List.set_cons_succ, List.getElem_toArray, List.getElem_cons_zero, List.getElem_cons_succ]
        refine wpAnyH_ready (rs := [4, 7]) (by kernel_rfl) (by simp) ?_
        refine (AllReadyH.cons rfl (fun K hK => ?_) (AllReadyH.cons rfl (fun K hK => ?_) AllReadyH.nil))
        · skip
          have a4 := (HB4.out _ HS0.out.1).1
          go_simp
          refine hK.out _ _ ?_ (fun hHeld => ?_)
          · exact HX.out _ HS0.out.1
          clear hK K
          clear a4
          try simp only [Act.put, List.setIfInBounds_toArray, List.set_cons_zero, List.set_cons_succ, List.getElem_toArray, List.getElem_cons_zero, List.getElem_cons_succ]
          refine wpAnyH_ready (rs := [7]) (by kernel_rfl) (by simp) ?_
          refine AllReadyH.cons rfl (fun K hK => ?_) AllReadyH.nil
          go_simp
          obtain ⟨g, hg⟩ : ∃ g, Hid (x9.drew.heap.size = g) := ⟨_, show _ = _ from rfl⟩
          obtain ⟨x1, hx1⟩ : ∃ y, Hid ((x9.alloc (.cells #[.int .i64 x] 3)).drew = y) := ⟨_, show _ = _ from rfl⟩
          have hb : Below x9.drew.heap.size x9.drew x1 := by rw [← show (x9.alloc (.cells #[.int .i64 x] 3)).drew = x1 from hx1.out]; exact below_alloc (x9.drew) _
          obtain ⟨HS1⟩ : Nonempty (Hid (LT W x1 B C S A p q cq)) := ⟨HS0.out.on hb⟩
          obtain ⟨HG1⟩ : Nonempty (Hid (x1.heap[g]? = some (.cells #[.int .i64 x] 3 (0, 0)) ∧ ∀ b o, q = some ⟨b, o, none⟩ → b ≠ g)) := ⟨⟨by rw [← show (x9.alloc (.cells #[.int .i64 x] 3)).drew = x1 from hx1.out, ← show x9.drew.heap.size = g from hg.out]; exact Go.heap_alloc_new (x9.drew) _, fun b o e => by rw [← show x9.drew.heap.size = g from hg.out]; have := (HS0.out.2.1.lt b (by rw [e]; rfl)).2; omega⟩⟩
          rw [show (x9.alloc (.cells #[.int .i64 x] 3)).drew = x1 from hx1.out, show x9.heap.size = g from hg.out]
          clear hx1 hg hb
          refine hK.out _ _ ?_ (fun hHeld => ?_)
          · exact HX.out _ HS1.out.1
          clear hK K
          try simp only [Act.put, List.setIfInBounds_toArray, List.set_cons_zero, List.set_cons_succ, List.getElem_toArray, List.getElem_cons_zero, List.getElem_cons_succ]
          refine wpAnyH_ready (rs := [8]) (by kernel_rfl) (by simp) ?_
          refine AllReadyH.cons rfl (fun K hK => ?_) AllReadyH.nil
          go_simp
          refine (insert_own A.tags x q cq S ps g _ HS1.out.2.1 hpsl (by omega) HG1.out.1 HG1.out.2 HS1.out.2.2.2.2.2).mono ?_
          rintro r x2 ⟨⟨v, rfl, ho, hv⟩, hb, hkp⟩
          rw [show A.tags.take ps ++ x :: A.tags.drop ps = O' from hO'.out, ← show O'.length = A.tags.length + 1 from HOL.out] at ho
          obtain ⟨q1, c1, rfl, -, -, -⟩ := own_kind' ho
          obtain ⟨HE2⟩ : Nonempty (Hid (LS W x2 B C ∧ World.ownsRow x2 S 3 1 (.slice q1 O'.length c1) O'.length (O'.map intV) ∧ Ints x2 p A.path ∧ ∀ b o, q1 = some ⟨b, o, none⟩ → b ≠ C)) := ⟨by
          obtain ⟨a1, a2⟩ := ins_stands (O := O') HH.out HS1.out hb hv hkp
          exact ⟨a1, ho, HS1.out.2.2.1.low hb HS1.out.2.2.2.1, a2⟩⟩
          clear ho hb hv hkp
          refine hK.out _ _ ?_ (fun hHeld => ?_)
          · exact HX.out _ HE2.out.1
          clear hK K
          try simp only [Act.put, List.setIfInBounds_toArray, List.set_cons_zero, List.set_cons_succ, List.getElem_toArray, List.getElem_cons_zero, List.getElem_cons_succ]
          refine wpAnyH_take (i := 9) (v := ?_) rfl (by kernel_rfl) (by kernel_rfl) (by kernel_rfl) (fun _ _ _ h => h) (Or.inl ⟨by rfl, ?_⟩) (by assumption) ?_
          rotate_left
          · (intro w hSw; (try dsimp only at hSw); go_simp; try (with_reducible rfl))
          try simp only [Act.put, List.setIfInBounds_toArray, List.set_cons_zero, List.set_cons_succ, List.getElem_toArray, List.getElem_cons_zero, List.getElem_cons_succ]
          refine wpAnyH_take (i := 10) (v := ?_) rfl (by kernel_rfl) (by kernel_rfl) (by kernel_rfl) (fun _ _ _ h => h) (Or.inl ⟨by rfl, ?_⟩) (by assumption) ?_
          rotate_left
          · (intro w hSw; (try dsimp only at hSw); go_simp; try (with_reducible rfl))
          try simp only [Act.put, List.setIfInBounds_toArray, List.set_cons_zero, List.set_cons_succ, List.getElem_toArray, List.getElem_cons_zero, List.getElem_cons_succ]
          refine wpAnyH_ready (rs := [11]) (by kernel_rfl) (by simp) ?_
          refine AllReadyH.cons rfl (fun K hK => ?_) AllReadyH.nil
          have a4 := (HH.out.cells HE2.out.1).2
          have z4 := HH.out.soft HE2.out.1 4
          go_simp
          obtain ⟨wf, hwf⟩ : ∃ y, Hid (x2.setCell ⟨C, 4, none⟩ (.slice q1 O'.length c1) = y) := ⟨_, show _ = _ from rfl⟩
          obtain ⟨HF⟩ : Nonempty (Hid (Below B W wf ∧ AR wf B C { A with tags := O' })) := ⟨tag_end HH.out HE2.out.1 HE2.out.2.2.1 HE2.out.2.1 HLT.out.2.2.2.2.1 HE2.out.2.2.2 hwf.out⟩
          rw [show x2.setCell ⟨C, 4, none⟩ (.slice q1 O'.length c1) = wf from hwf.out]
          refine hK.out _ _ ?_ (fun hHeld => ?_)
          · rw [HF.out.1.cell (p := ⟨X1, 0, none⟩) l1]; exact HX.out W HLT.out.1
          clear hK K a4 z4
          try simp only [Act.put, List.setIfInBounds_toArray, List.set_cons_zero, List.set_cons_succ, List.getElem_toArray, List.getElem_cons_zero, List.getElem_cons_succ]
          refine wpAnyH_done (by kernel_rfl) ?_ _
          refine NoPanic.normal ?_
          clear hHeld
          go_wp2_with fail
          go_ret
          exact ⟨rfl, HF.out.1, fun _ => HF.out.2⟩
        · skip
          go_simp
          obtain ⟨g, hg⟩ : ∃ g, Hid (x9.drew.heap.size = g) := ⟨_, show _ = _ from rfl⟩
          obtain ⟨x1, hx1⟩ : ∃ y, Hid ((x9.alloc (.cells #[.int .i64 x] 3)).drew = y) := ⟨_, show _ = _ from rfl⟩
          have hb : Below x9.drew.heap.size x9.drew x1 := by rw [← show (x9.alloc (.cells #[.int .i64 x] 3)).drew = x1 from hx1.out]; exact below_alloc (x9.drew) _
          obtain ⟨HS1⟩ : Nonempty (Hid (LT W x1 B C S A p q cq)) := ⟨HS0.out.on hb⟩
          obtain ⟨HG1⟩ : Nonempty (Hid (x1.heap[g]? = some (.cells #[.int .i64 x] 3 (0, 0)) ∧ ∀ b o, q = some ⟨b, o, none⟩ → b ≠ g)) := ⟨⟨by rw [← show (x9.alloc (.cells #[.int .i64 x] 3)).drew = x1 from hx1.out, ← show x9.drew.heap.size = g from hg.out]; exact Go.heap_alloc_new (x9.drew) _, fun b o e => by rw [← show x9.drew.heap.size = g from hg.out]; have := (HS0.out.2.1.lt b (by rw [e]; rfl)).2; omega⟩⟩
          rw [show (x9.alloc (.cells #[.int .i64 x] 3)).drew = x1 from hx1.out, show x9.heap.size = g from hg.out]
          clear hx1 hg hb
          refine hK.out _ _ ?_ (fun hHeld => ?_)
          · exact HX.out _ HS1.out.1
          clear hK K
          try simp only [Act.put, List.setIfInBounds_toArray, List.set_cons_zero, List.set_cons_succ, List.getElem_toArray, List.getElem_cons_zero, List.getElem_cons_succ]
          refine wpAnyH_ready (rs := [4]) (by kernel_rfl) (by simp) ?_
          refine AllReadyH.cons rfl (fun K hK => ?_) AllReadyH.nil
          have a4 := (HB4.out _ HS1.out.1).1
          go_simp
          refine hK.out _ _ ?_ (fun hHeld => ?_)
          · exact HX.out _ HS1.out.1
          clear hK K
          clear a4
          try simp only [Act.put, List.setIfInBounds_toArray, List.set_cons_zero, List.set_cons_succ, List.getElem_toArray, List.getElem_cons_zero, List.getElem_cons_succ]
          refine wpAnyH_ready (rs := [8]) (by kernel_rfl) (by simp) ?_
          refine AllReadyH.cons rfl (fun K hK => ?_) AllReadyH.nil
          go_simp
          refine (insert_own A.tags x q cq S ps g _ HS1.out.2.1 hpsl (by omega) HG1.out.1 HG1.out.2 HS1.out.2.2.2.2.2).mono ?_
          rintro r x2 ⟨⟨v, rfl, ho, hv⟩, hb, hkp⟩
          rw [show A.tags.take ps ++ x :: A.tags.drop ps = O' from hO'.out, ← show O'.length = A.tags.length + 1 from HOL.out] at ho
          obtain ⟨q1, c1, rfl, -, -, -⟩ := own_kind' ho
          obtain ⟨HE2⟩ : Nonempty (Hid (LS W x2 B C ∧ World.ownsRow x2 S 3 1 (.slice q1 O'.length c1) O'.length (O'.map intV) ∧ Ints x2 p A.path ∧ ∀ b o, q1 = some ⟨b, o, none⟩ → b ≠ C)) := ⟨by
          obtain ⟨a1, a2⟩ := ins_stands (O := O') HH.out HS1.out hb hv hkp
          exact ⟨a1, ho, HS1.out.2.2.1.low hb HS1.out.2.2.2.1, a2⟩⟩
          clear ho hb hv hkp
          refine hK.out _ _ ?_ (fun hHeld => ?_)
          · exact HX.out _ HE2.out.1
          clear hK K
          try simp only [Act.put, List.setIfInBounds_toArray, List.set_cons_zero, List.set_cons_succ, List.getElem_toArray, List.getElem_cons_zero, List.getElem_cons_succ]
          refine wpAnyH_take (i := 9) (v := ?_) rfl (by kernel_rfl) (by kernel_rfl) (by kernel_rfl) (fun _ _ _ h => h) (Or.inl ⟨by rfl, ?_⟩) (by assumption) ?_
          rotate_left
          · (intro w hSw; (try dsimp only at hSw); go_simp; try (with_reducible rfl))
          try simp only [Act.put, List.setIfInBounds_toArray, List.set_cons_zero, List.set_cons_succ, List.getElem_toArray, List.getElem_cons_zero, List.getElem_cons_succ]
          refine wpAnyH_take (i := 10) (v := ?_) rfl (by kernel_rfl) (by kernel_rfl) (by kernel_rfl) (fun _ _ _ h => h) (Or.inl ⟨by rfl, ?_⟩) (by assumption) ?_
          rotate_left
          · (intro w hSw; (try dsimp only at hSw); go_simp; try (with_reducible rfl))
          try simp only [Act.put, List.setIfInBounds_toArray, List.set_cons_zero, List.set_cons_succ, List.getElem_toArray, List.getElem_cons_zero, List.getElem_cons_succ]
          refine wpAnyH_ready (rs := [11]) (by kernel_rfl) (by simp) ?_
          refine AllReadyH.cons rfl (fun K hK => ?_) AllReadyH.nil
          have a4 := (HH.out.cells HE2.out.1).2
          have z4 := HH.out.soft HE2.out.1 4
          go_simp
          obtain ⟨wf, hwf⟩ : ∃ y, Hid (x2.setCell ⟨C, 4, none⟩ (.slice q1 O'.length c1) = y) := ⟨_, show _ = _ from rfl⟩
          obtain ⟨HF⟩ : Nonempty (Hid (Below B W wf ∧ AR wf B C { A with tags := O' })) := ⟨tag_end HH.out HE2.out.1 HE2.out.2.2.1 HE2.out.2.1 HLT.out.2.2.2.2.1 HE2.out.2.2.2 hwf.out⟩
          rw [show x2.setCell ⟨C, 4, none⟩ (.slice q1 O'.length c1) = wf from hwf.out]
          refine hK.out _ _ ?_ (fun hHeld => ?_)
          · rw [HF.out.1.cell (p := ⟨X1, 0, none⟩) l1]; exact HX.out W HLT.out.1
          clear hK K a4 z4
          try simp only [Act.put, List.setIfInBounds_toArray, List.set_cons_zero, List.set_cons_succ, List.getElem_toArray, List.getElem_cons_zero, List.getElem_cons_succ]
          refine wpAnyH_done (by kernel_rfl) ?_ _
          refine NoPanic.normal ?_
          clear hHeld
          go_wp2_with fail
          go_ret
          exact ⟨rfl, HF.out.1, fun _ => HF.out.2⟩
end Go.Proofs.YtbfdgflbflajdaaGreatDoor
