/-
  Package attr's Lead: the change that it makes.
-/
import Derived.Test.YtbfdgflbflajdaaGreatDoorHC
import Derived.Test.YtbfdgflbflajdaaGreatDoorGM
namespace Go.Proofs.YtbfdgflbflajdaaGreatDoor
open Go.RowKit

/-- all of a list of numbers behind a row's end, as one operation. -/
theorem op_addAll1 {P : Program} {W : World} {o : Oper} {a : Act} {K : Act → World → Prop} {Q : Exit → Act → World → Prop} (s x : Operand) (t : TypeId)
    (ho : o.op = .call { callee := .builtin .append, args := #[s, x], argTypes := #[t, t] })
    (base : Nat) (e : TypeId) (i : TypeInfo) (ht : P.underlying t = some (.slice e)) (hi : P.info? e = some i) (hz : i.zero = some (.int .i64 0)) (hsize : i.size = 1) (hby : i.bytes = 8)
    (v : Value) (O : List Int) (hs : a.eval s = v) (hown : W.ownsRow base e 1 v O.length (O.map intV)) (p : Option Addr) (M : List Int) (n c : Nat) (hx : a.eval x = .slice p n c) (hn : M.length = n) (hk : Kind1 p n c) (hM : Ints W p M) (O' : List Int) (hO' : Hid (O ++ M = O'))
    (hO : O.length + M.length ≤ 1099511627776) (hbase : base ≤ W.heap.size)
    (h : ∀ v' w', w'.ownsRow base e 1 v' O'.length (O'.map intV) → Below base W w' → K (a.put o.dst v') w') : o.wp P a W K Q := by
  subst hn
  rcases hk with ⟨rfl, h0, rfl⟩ | ⟨⟨b0, o0, rfl⟩, -, -⟩
  · have hM0 : M = [] := List.eq_nil_of_length_eq_zero h0
    subst hM0
    rw [List.append_nil] at hO'
    have := hO'.out
    subst this
    have hrun := run_append_owned_none (P := P) (w := W) base t o.type e i 1 ht hi v O.length (O.map intV) hown
    have hx' : a.eval x = .slice none 0 0 := hx
    unfold Oper.wp
    simp [execOp, ho, resolve, invoke, builtin, hs, hx', hrun, Result.andThen]
    exact h _ _ hown (Below.refl _ _)
  · refine wp_append_own _ s x t ho base e i (.int .i64 0) 1 8 ht hi hz hsize hby rfl (by decide) v O.length (O.map intV) hs hown ⟨b0, o0, none⟩ M.length c (M.map intV) hx (by simp) ?_ (ints_one M) (by unfold maxLen; omega) (by omega) hbase ?_
    · intro j u hj
      have hjl : j < M.length := by
        have := (List.getElem?_eq_some_iff.1 hj).1
        simpa using this
      obtain ⟨b, o', e', c0⟩ := hM j hjl
      simp only [Option.some.injEq, Addr.mk.injEq, and_true] at e'
      obtain ⟨e1, e2⟩ := e'
      rw [← e1, ← e2] at c0
      have hadd : (⟨b0, o0, none⟩ : Addr).add j = ⟨b0, o0 + j, none⟩ := by
        unfold Addr.add
        split
        · rename_i h; subst h; rfl
        · rfl
      rw [hadd]
      simp [hjl, intV] at hj
      rw [← hj]
      exact c0
    · intro v' w1 hown' hgrow _
      rw [← hO'.out] at h
      refine h v' w1 ?_ ((Below.refl base W).grown hgrow hbase (fun j hj => (hown.lt j hj).1))
      rw [List.map_append, List.length_append]
      exact hown'
theorem enters_lead : ∀ args w, (callFunc 45 args).run Tryz.prog w = .ok (.enter 45 args) w := fun args w => by kernel_rfl
theorem AP.cells {w : World} {L C : Nat} {A : At} (h : AP w L C A) : ∃ p cp q cq, (w.heap[C]? = some (.cells #[.slice p A.path.length cp, .int .i64 A.pref, .int .i64 A.med, .int .i64 A.org, .slice q A.tags.length cq] 24 (0, 0))) ∧ Ints w p A.path ∧ Ints w q A.tags ∧ Kind1 p A.path.length cp ∧ Kind1 q A.tags.length cq ∧ (∀ b o, p = some ⟨b, o, none⟩ → L ≤ b ∧ b ≠ C) ∧ (∀ b o, q = some ⟨b, o, none⟩ → L ≤ b ∧ b ≠ C) ∧ L ≤ C ∧ C < w.heap.size := by
  obtain ⟨p, cp, q, cq, h1, h2, h3, h4, h5, h6, h7⟩ := ap_ar h
  obtain ⟨_, _, _, _, -, -, -, -, h8⟩ := h
  exact ⟨p, cp, q, cq, h1, h2, h3, h4, h5, h6, h7, h8, (Array.getElem?_eq_some_iff.1 h1).1⟩
/-- what stands while the change is made: all below B, and C itself. -/
def LS (W wr : World) (B C : Nat) : Prop := Below B W wr ∧ wr.heap[C]? = W.heap[C]? ∧ B ≤ C ∧ C < wr.heap.size
theorem LS.on {W wr w' : World} {B C S : Nat} (h : LS W wr B C) (hb : Below S wr w') (hS : C < S) : LS W w' B C :=
  ⟨h.1.trans (hb.mono (by have := h.2.2.1; omega)), by rw [hb.block _ hS]; exact h.2.1, h.2.2.1, Nat.lt_of_lt_of_le h.2.2.2 hb.size⟩
/-- the attribute's copy before the change. -/
def LH (W : World) (B C : Nat) (A : At) (p : Option Addr) (cp : Nat) (q : Option Addr) (cq : Nat) : Prop :=
  W.heap[C]? = some (.cells #[.slice p A.path.length cp, .int .i64 A.pref, .int .i64 A.med, .int .i64 A.org, .slice q A.tags.length cq] 24 (0, 0)) ∧ Ints W p A.path ∧ Ints W q A.tags ∧ Kind1 p A.path.length cp ∧ Kind1 q A.tags.length cq ∧ (∀ b o, p = some ⟨b, o, none⟩ → B ≤ b ∧ b ≠ C) ∧ (∀ b o, q = some ⟨b, o, none⟩ → B ≤ b ∧ b ≠ C) ∧ B ≤ C ∧ C < W.heap.size
theorem LH.cells {W wr : World} {B C : Nat} {A : At} {p q : Option Addr} {cp cq : Nat} (h : LH W B C A p cp q cq) (hs : LS W wr B C) : wr.cell? ⟨C, 0, none⟩ = some (.slice p A.path.length cp) ∧ wr.cell? ⟨C, 4, none⟩ = some (.slice q A.tags.length cq) := by
  have hh : wr.heap[C]? = _ := hs.2.1.trans h.1
  constructor <;> simp [World.cell?, hh]
theorem LH.soft {W wr : World} {B C : Nat} {A : At} {p q : Option Addr} {cp cq : Nat} (h : LH W B C A p cp q cq) (hs : LS W wr B C) (k : Nat) : wr.frozen? ⟨C, k, none⟩ = false := by
  have hh : wr.heap[C]? = _ := hs.2.1.trans h.1
  simp [World.frozen?, hh]
theorem lead_end {W wr : World} {B C S : Nat} {A : At} {p q p1 : Option Addr} {cp cq c1 : Nat} {O : List Int} (h : LH W B C A p cp q cq) (hs : LS W wr B C) (hq : Ints wr q A.tags) (hO : wr.ownsRow S 3 1 (.slice p1 O.length c1) O.length (O.map intV)) (hS : C < S) {wf : World} (hwf : wr.setCell ⟨C, 0, none⟩ (.slice p1 O.length c1) = wf) :
    Below B W wf ∧ AR wf B C { A with path := O } := by
  subst hwf
  obtain ⟨p2, c2, e, k1, i1, f1⟩ := own_kind' hO
  simp only [Value.slice.injEq, true_and] at e
  obtain ⟨rfl, rfl⟩ := e
  have hh : wr.heap[C]? = _ := hs.2.1.trans h.1
  have h1 := heap_setCell_same wr C 0 _ _ (.slice p1 O.length c1) hh
  simp only [List.setIfInBounds_toArray, List.set_cons_zero] at h1
  have m1 : ∀ b o, p1 = some ⟨b, o, none⟩ → B ≤ b ∧ b ≠ C := fun b o e => by have := f1 b o e; have := hs.2.2.1; omega
  exact ⟨hs.1.setCell hs.2.2.1 _, p1, c1, q, cq, h1, i1.setNe (fun b o e => (m1 b o e).2) _ _, hq.setNe (fun b o e => (h.2.2.2.2.2.2.1 b o e).2) _ _, k1, h.2.2.2.2.1, m1, h.2.2.2.2.2.2.1⟩
theorem ints_on {W wr : World} {S : Nat} {p : Option Addr} {L : List Int} (h : Ints W p L) (hb : Below S W wr) (hS : W.heap.size ≤ S) : Ints wr p L := h.below (hb.mono hS)
theorem leadC_bound {A : At} (hA : RightA A) {x n : Int} (h : x < 1 ∨ 1000 < x ∨ n < 0 ∨ 12 < n) : leadC A x n = 2 := by
  unfold leadC; rw [fault_of_right hA, if_neg (by decide), if_pos h]
theorem leadC_full {A : At} (hA : RightA A) {x n : Int} (h : ¬ (x < 1 ∨ 1000 < x ∨ n < 0 ∨ 12 < n)) (hf : 12 < (A.path.length : Int) + n) : leadC A x n = 7 := by
  unfold leadC; rw [fault_of_right hA, if_neg (by decide), if_neg h, if_pos hf]
theorem leadC_right {A : At} (hA : RightA A) {x n : Int} (h : ¬ (x < 1 ∨ 1000 < x ∨ n < 0 ∨ 12 < n)) (hf : ¬ 12 < (A.path.length : Int) + n) : leadC A x n = 0 := by
  unfold leadC; rw [fault_of_right hA, if_neg (by decide), if_neg h, if_neg hf]

set_option linter.unusedSimpArgs false in
set_option linter.unusedVariables false in
set_option maxRecDepth 100000 in
set_option maxHeartbeats 8000000 in
theorem lead_changer (A : At) (x n : Int) (X1 X2 : Nat) (E : Nat → Addr) (m : Int) (w : World) (hE : AttrEnv w E m) (hA : RightA A) (h1 : w.cell? ⟨X1, 0, none⟩ = some (.int .i64 x)) (h2 : w.cell? ⟨X2, 0, none⟩ = some (.int .i64 n)) :
    Changer2 45 (.pointer (some ⟨X1, 0, none⟩)) (.pointer (some ⟨X2, 0, none⟩)) E (leadC A x n).toNat A (leadA A x n) w := by
  refine ⟨enters_lead, fun B C W hwB hb hap => ?_⟩
  have c1 := cell_kept hb h1
  have c2 := cell_kept hb h2
  have l1 := cell_lt' h1
  have l2 := cell_lt' h2
  have eb := cell_kept hb hE.bound
  have ef := cell_kept hb hE.full
  replace l1 := Nat.lt_of_lt_of_le l1 hwB
  replace l2 := Nat.lt_of_lt_of_le l2 hwB
  obtain ⟨p, cp, q, cq, hh, i1, i2, k1, k2, n1, n2, hbc, hs⟩ := hap.cells
  have W1 := isSystem_any x W
  have W2 := within_any n 0 12 W
  have hpl := hA.path
  obtain ⟨HA⟩ : Nonempty (Hid (RightA A)) := ⟨hA⟩
  simp only at c1 c2 l1 l2
  clear hE hb hA hwB
  cases hx1 : inB3 x 1 1000 with
  | false =>
    have hbd : x < 1 ∨ 1000 < x ∨ n < 0 ∨ 12 < n := by simp [inB3] at hx1; omega
    rw [leadC_bound HA.out hbd]
    rw [hx1] at W1
    obtain ⟨HW1⟩ : Nonempty (Hid (Calls _ _ _ _ _)) := ⟨W1⟩
    clear W1 W2 hbd hap hh i1 i2 k1 k2 n1 n2
    go_enter Tryz.func45, Tryz.ntmps45
    go_wp2_with fail
    refine HW1.out.mono ?_
    rintro e w1 ⟨rfl, rfl⟩
    go_wp2_with fail
    go_ret
    exact ⟨rfl, Below.refl _ _, fun h => absurd h (by decide)⟩
  | true =>
  cases hx2 : inB3 n 0 12 with
  | false =>
    have hbd : x < 1 ∨ 1000 < x ∨ n < 0 ∨ 12 < n := by simp [inB3] at hx2; omega
    rw [leadC_bound HA.out hbd]
    rw [hx1] at W1
    rw [hx2] at W2
    obtain ⟨HW1⟩ : Nonempty (Hid (Calls _ _ _ _ _)) := ⟨W1⟩
    obtain ⟨HW2⟩ : Nonempty (Hid (Calls _ _ _ _ _)) := ⟨W2⟩
    clear W1 W2 hbd hap hh i1 i2 k1 k2 n1 n2
    go_enter Tryz.func45, Tryz.ntmps45
    go_wp2_with fail
    refine HW1.out.mono ?_
    rintro e w1 ⟨rfl, rfl⟩
    go_wp2_with fail
    refine HW2.out.mono ?_
    rintro e w2 ⟨rfl, rfl⟩
    go_wp2_with fail
    go_ret
    exact ⟨rfl, Below.refl _ _, fun h => absurd h (by decide)⟩
  | true =>
  have hbd : ¬ (x < 1 ∨ 1000 < x ∨ n < 0 ∨ 12 < n) := by simp [inB3] at hx1 hx2; omega
  obtain ⟨N, rfl⟩ : ∃ N : Nat, n = (N : Int) := ⟨n.toNat, by omega⟩
  have hN : N ≤ 12 := by omega
  rw [hx1] at W1
  rw [hx2] at W2
  obtain ⟨HW1⟩ : Nonempty (Hid (Calls _ _ _ _ _)) := ⟨W1⟩
  obtain ⟨HW2⟩ : Nonempty (Hid (Calls _ _ _ _ _)) := ⟨W2⟩
  have g5 : IntKind.i64.wrap ((N : Int) + (A.path.length : Int)) = (N : Int) + (A.path.length : Int) := wrapi _ (by omega)
  obtain ⟨p0, hp0⟩ : ∃ x, Hid (p = x) := ⟨_, show _ = _ from rfl⟩
  have a0 : W.cell? ⟨C, 0, none⟩ = some (.slice p A.path.length cp) := by simp [World.cell?, hh]
  by_cases hfull : 12 < (A.path.length : Int) + (N : Int)
  · have g6 : decide (12 < (N : Int) + (A.path.length : Int)) = true := decide_eq_true (by omega)
    rw [leadC_full HA.out hbd hfull]
    clear W1 W2 hbd hap hh i1 i2 k1 k2 n1 n2 hfull
    go_enter Tryz.func45, Tryz.ntmps45
    go_wp2_with fail
    refine HW1.out.mono ?_
    rintro e w1 ⟨rfl, rfl⟩
    go_wp2_with fail
    refine HW2.out.mono ?_
    rintro e w2 ⟨rfl, rfl⟩
    go_wp2_with fail
    go_quiet (fail)
    go_wp2_with fail
    go_ret
    exact ⟨rfl, below_drewN (Below.refl _ _) _, fun h => absurd h (by decide)⟩
  · have g6 : decide (12 < (N : Int) + (A.path.length : Int)) = false := decide_eq_false (by omega)
    rw [leadC_right HA.out hbd hfull]
    obtain ⟨i0, hi, hz0, hz1, hz2⟩ := info_parts infoInt
    obtain ⟨HH⟩ : Nonempty (Hid (LH W B C A p cp q cq)) := ⟨⟨hh, i1, i2, k1, k2, n1, n2, hbc, hs⟩⟩
    obtain ⟨HX⟩ : Nonempty (Hid (∀ wr, LS W wr B C → wr.cell? ⟨X1, 0, none⟩ = some (.int .i64 x) ∧ wr.cell? ⟨X2, 0, none⟩ = some (.int .i64 (N : Int)))) := ⟨fun wr h => ⟨by rw [h.1.cell (p := ⟨X1, 0, none⟩) l1]; exact c1, by rw [h.1.cell (p := ⟨X2, 0, none⟩) l2]; exact c2⟩⟩
    clear W1 W2 hbd hap hh i1 i2 k1 k2 n1 n2 hfull hs hbc
    go_enter Tryz.func45, Tryz.ntmps45
    go_wp2_with fail
    refine HW1.out.mono ?_
    rintro e w1 ⟨rfl, hw1⟩
    replace hw1 := hw1.symm
    subst hw1
    go_wp2_with fail
    refine HW2.out.mono ?_
    rintro e w2 ⟨rfl, hw2⟩
    replace hw2 := hw2.symm
    subst hw2
    clear HW1 HW2
    go_wp2_with fail
    go_quiet (fail)
    obtain ⟨W5, hW5⟩ : ∃ W5, Hid (W.drewN nq = W5) := ⟨_, show _ = _ from rfl⟩
    rw [show W.drewN nq = W5 from hW5.out]
    obtain ⟨HS0⟩ : Nonempty (Hid (LS W W5.drew B C ∧ Below W.heap.size W W5.drew)) := ⟨by rw [← show W.drewN nq = W5 from hW5.out]; exact ⟨⟨(below_drewN (Below.refl _ _) _).drew, rfl, HH.out.2.2.2.2.2.2.2.1, HH.out.2.2.2.2.2.2.2.2⟩, (below_drewN (Below.refl _ _) _).drew⟩⟩
    clear c1 c2 a0 hW5
    go_upto_region 5 with fail
    refine wp_region_noPanic ?_
    refine wp_region_held_drew (S := (fun w' => w'.cell? ⟨X1, 0, none⟩ = some (.int .i64 x) ∧ w'.cell? ⟨X2, 0, none⟩ = some (.int .i64 (N : Int)))) (by kernel_rfl) ?_ (fun hHeld => ?_)
    · exact HX.out _ HS0.out.1
    refine wpAnyH_take (i := 0) (v := ?_) rfl (by kernel_rfl) (by kernel_rfl) (by kernel_rfl) (fun _ _ _ h => h) (Or.inl ⟨by rfl, ?_⟩) (by assumption) ?_
    rotate_left
    · (intro w hSw; (try dsimp only at hSw); go_simp; try (with_reducible rfl))
    try simp only [Act.put, List.setIfInBounds_toArray, List.set_cons_zero, List.set_cons_succ, List.getElem_toArray, List.getElem_cons_zero, List.getElem_cons_succ]
    refine wpAnyH_take (i := 1) (v := ?_) rfl (by kernel_rfl) (by kernel_rfl) (by kernel_rfl) (fun _ _ _ h => h) (Or.inl ⟨by rfl, ?_⟩) (by assumption) ?_
    rotate_left
    · (intro w hSw; (try dsimp only at hSw); go_simp; try (with_reducible rfl))
    try simp only [Act.put, List.setIfInBounds_toArray, List.set_cons_zero, List.set_cons_succ, List.getElem_toArray, List.getElem_cons_zero, List.getElem_cons_succ]
    refine wpAnyH_take (i := 3) (v := ?_) rfl (by kernel_rfl) (by kernel_rfl) (by kernel_rfl) (fun _ _ _ h => h) (Or.inl ⟨by rfl, ?_⟩) (by assumption) ?_
    rotate_left
    · (intro w hSw; (try dsimp only at hSw); go_simp; try (with_reducible rfl))
    try simp only [Act.put, List.setIfInBounds_toArray, List.set_cons_zero, List.set_cons_succ, List.getElem_toArray, List.getElem_cons_zero, List.getElem_cons_succ]
    refine wpAnyH_take (i := 5) (v := ?_) rfl (by kernel_rfl) (by kernel_rfl) (by kernel_rfl) (fun _ _ _ h => h) (Or.inl ⟨by rfl, ?_⟩) (by assumption) ?_
    rotate_left
    · (intro w hSw; (try dsimp only at hSw); go_simp; try (with_reducible rfl))
    try simp only [Act.put, List.setIfInBounds_toArray, List.set_cons_zero, List.set_cons_succ, List.getElem_toArray, List.getElem_cons_zero, List.getElem_cons_succ]
    refine wpAnyH_take (i := 6) (v := ?_) rfl (by kernel_rfl) (by kernel_rfl) (by kernel_rfl) (fun _ _ _ h => h) (Or.inl ⟨by rfl, ?_⟩) (by assumption) ?_
    rotate_left
    · (intro w hSw; (try dsimp only at hSw); go_simp; try (with_reducible rfl))
    try simp only [Act.put, List.setIfInBounds_toArray, List.set_cons_zero, List.set_cons_succ, List.getElem_toArray, List.getElem_cons_zero, List.getElem_cons_succ]
    refine wpAnyH_take (i := 7) (v := ?_) rfl (by kernel_rfl) (by kernel_rfl) (by kernel_rfl) (fun _ _ _ h => h) (Or.inl ⟨by rfl, ?_⟩) (by assumption) ?_
    rotate_left
    · (intro w hSw; (try dsimp only at hSw); go_simp; try (with_reducible rfl))
    try simp only [Act.put, List.setIfInBounds_toArray, List.set_cons_zero, List.set_cons_succ, List.getElem_toArray, List.getElem_cons_zero, List.getElem_cons_succ]
    refine wpAnyH_ready (rs := [2, 8]) (by kernel_rfl) (by simp) ?_
    refine (AllReadyH.cons rfl (fun K hK => ?_) (AllReadyH.cons rfl (fun K hK => ?_) AllReadyH.nil))
    · skip
      go_simp
      obtain ⟨g, hg⟩ : ∃ g, Hid (W5.drew.heap.size = g) := ⟨_, show _ = _ from rfl⟩
      obtain ⟨x1, hx1⟩ : ∃ y, Hid ((W5.alloc (.cells #[.int .i64 x] 3)).drew = y) := ⟨_, show _ = _ from rfl⟩
      have hb : Below W5.drew.heap.size W5.drew x1 := by rw [← show (W5.alloc (.cells #[.int .i64 x] 3)).drew = x1 from hx1.out]; exact below_alloc (W5.drew) _
      obtain ⟨HS1⟩ : Nonempty (Hid (LS W x1 B C ∧ Below W.heap.size W x1)) := ⟨⟨HS0.out.1.on hb HS0.out.1.2.2.2, HS0.out.2.trans (hb.mono HS0.out.2.size)⟩⟩
      obtain ⟨HG1⟩ : Nonempty (Hid (x1.cell? ⟨g, 0, none⟩ = some (intV x))) := ⟨by rw [← show (W5.alloc (.cells #[.int .i64 x] 3)).drew = x1 from hx1.out, ← show W5.drew.heap.size = g from hg.out]; exact box_one (W5.drew) _ _⟩
      rw [show (W5.alloc (.cells #[.int .i64 x] 3)).drew = x1 from hx1.out, show W5.heap.size = g from hg.out]
      clear hx1 hg hb
      refine hK.out _ _ ?_ (fun hHeld => ?_)
      · exact HX.out _ HS1.out.1
      clear hK K
      try simp only [Act.put, List.setIfInBounds_toArray, List.set_cons_zero, List.set_cons_succ, List.getElem_toArray, List.getElem_cons_zero, List.getElem_cons_succ]
      refine wpAnyH_ready (rs := [4, 8]) (by kernel_rfl) (by simp) ?_
      refine (AllReadyH.cons rfl (fun K hK => ?_) (AllReadyH.cons rfl (fun K hK => ?_) AllReadyH.nil))
      · skip
        go_simp
        refine (repeat_any x N g _ HG1.out hN).mono ?_
        rintro r x2 ⟨⟨v, rfl, ho⟩, hb⟩
        obtain ⟨HS2⟩ : Nonempty (Hid (LS W x2 B C ∧ Below W.heap.size W x2)) := ⟨⟨HS1.out.1.on hb HS1.out.1.2.2.2, HS1.out.2.trans (hb.mono HS1.out.2.size)⟩⟩
        obtain ⟨S1, hS1⟩ : ∃ s, Hid (x1.heap.size = s) := ⟨_, show _ = _ from rfl⟩
        rw [show x1.heap.size = S1 from hS1.out] at ho
        obtain ⟨HO2⟩ : Nonempty (Hid (World.ownsRow x2 S1 3 1 v (List.replicate N x).length ((List.replicate N x).map intV) ∧ C < S1 ∧ S1 ≤ x2.heap.size ∧ W.heap.size ≤ S1)) := ⟨⟨by rw [List.length_replicate]; exact ho, by rw [← show x1.heap.size = S1 from hS1.out]; exact HS1.out.1.2.2.2, by rw [← show x1.heap.size = S1 from hS1.out]; exact hb.size, by rw [← show x1.heap.size = S1 from hS1.out]; exact HS1.out.2.size⟩⟩
        clear ho hb hS1
        refine hK.out _ _ ?_ (fun hHeld => ?_)
        · exact HX.out _ HS2.out.1
        clear hK K
        try simp only [Act.put, List.setIfInBounds_toArray, List.set_cons_zero, List.set_cons_succ, List.getElem_toArray, List.getElem_cons_zero, List.getElem_cons_succ]
        refine wpAnyH_ready (rs := [8]) (by kernel_rfl) (by simp) ?_
        refine AllReadyH.cons rfl (fun K hK => ?_) AllReadyH.nil
        have a0 := (HH.out.cells HS2.out.1).1
        go_simp
        refine hK.out _ _ ?_ (fun hHeld => ?_)
        · exact HX.out _ HS2.out.1
        clear hK K
        clear a0
        try simp only [Act.put, List.setIfInBounds_toArray, List.set_cons_zero, List.set_cons_succ, List.getElem_toArray, List.getElem_cons_zero, List.getElem_cons_succ]
        refine wpAnyH_ready (rs := [9]) (by kernel_rfl) (by simp) ?_
        refine AllReadyH.cons rfl (fun K hK => ?_) AllReadyH.nil
        rw [if_pos (by rfl)]
        obtain ⟨O', hO'⟩ : ∃ O', Hid (List.replicate N x ++ A.path = O') := ⟨_, show _ = _ from rfl⟩
        refine op_addAll1 (.tmp 27) (.tmp 31) 22 rfl S1 3 i0 Tryz.underlying22 hi hz0 hz1 hz2 _ (List.replicate N x) rfl HO2.out.1 p A.path _ cp rfl rfl HH.out.2.2.2.1 (HH.out.2.1.below HS2.out.2) O' hO' (by simp; omega) HO2.out.2.2.1 ?_
        intro v' x3 hown' hb'
        obtain ⟨p1, c1, rfl, -, -, -⟩ := own_kind' hown'
        obtain ⟨HS3⟩ : Nonempty (Hid (LS W x3 B C)) := ⟨HS2.out.1.on hb' HO2.out.2.1⟩
        obtain ⟨HQ3⟩ : Nonempty (Hid (Ints x3 q A.tags)) := ⟨ints_on (HH.out.2.2.1) ((HS2.out.2).trans (hb'.mono HO2.out.2.2.2)) (Nat.le_refl _)⟩
        obtain ⟨HO3⟩ : Nonempty (Hid (World.ownsRow x3 S1 3 1 (.slice p1 O'.length c1) O'.length (O'.map intV))) := ⟨hown'⟩
        refine hK.out _ _ ?_ (fun hHeld => ?_)
        · exact HX.out _ HS3.out
        clear hK K hown' hb'
        try simp only [Act.put, List.setIfInBounds_toArray, List.set_cons_zero, List.set_cons_succ, List.getElem_toArray, List.getElem_cons_zero, List.getElem_cons_succ]
        refine wpAnyH_take (i := 10) (v := ?_) rfl (by kernel_rfl) (by kernel_rfl) (by kernel_rfl) (fun _ _ _ h => h) (Or.inl ⟨by rfl, ?_⟩) (by assumption) ?_
        rotate_left
        · (intro w hSw; (try dsimp only at hSw); go_simp; try (with_reducible rfl))
        try simp only [Act.put, List.setIfInBounds_toArray, List.set_cons_zero, List.set_cons_succ, List.getElem_toArray, List.getElem_cons_zero, List.getElem_cons_succ]
        refine wpAnyH_take (i := 11) (v := ?_) rfl (by kernel_rfl) (by kernel_rfl) (by kernel_rfl) (fun _ _ _ h => h) (Or.inl ⟨by rfl, ?_⟩) (by assumption) ?_
        rotate_left
        · (intro w hSw; (try dsimp only at hSw); go_simp; try (with_reducible rfl))
        try simp only [Act.put, List.setIfInBounds_toArray, List.set_cons_zero, List.set_cons_succ, List.getElem_toArray, List.getElem_cons_zero, List.getElem_cons_succ]
        refine wpAnyH_ready (rs := [12]) (by kernel_rfl) (by simp) ?_
        refine AllReadyH.cons rfl (fun K hK => ?_) AllReadyH.nil
        have a0 := (HH.out.cells HS3.out).1
        have z0 := HH.out.soft HS3.out 0
        go_simp
        obtain ⟨wf, hwf⟩ : ∃ y, Hid (x3.setCell ⟨C, 0, none⟩ (.slice p1 O'.length c1) = y) := ⟨_, show _ = _ from rfl⟩
        obtain ⟨HF⟩ : Nonempty (Hid (Below B W wf ∧ AR wf B C { A with path := O' })) := ⟨lead_end HH.out HS3.out HQ3.out HO3.out HO2.out.2.1 hwf.out⟩
        rw [show x3.setCell ⟨C, 0, none⟩ (.slice p1 O'.length c1) = wf from hwf.out]
        refine hK.out _ _ ?_ (fun hHeld => ?_)
        · exact ⟨by rw [HF.out.1.cell (p := ⟨X1, 0, none⟩) l1]; exact (HX.out W ⟨Below.refl _ _, rfl, HH.out.2.2.2.2.2.2.2.1, HH.out.2.2.2.2.2.2.2.2⟩).1, by rw [HF.out.1.cell (p := ⟨X2, 0, none⟩) l2]; exact (HX.out W ⟨Below.refl _ _, rfl, HH.out.2.2.2.2.2.2.2.1, HH.out.2.2.2.2.2.2.2.2⟩).2⟩
        clear hK K a0 z0
        try simp only [Act.put, List.setIfInBounds_toArray, List.set_cons_zero, List.set_cons_succ, List.getElem_toArray, List.getElem_cons_zero, List.getElem_cons_succ]
        refine wpAnyH_done (by kernel_rfl) ?_ _
        refine NoPanic.normal ?_
        clear hHeld
        go_wp2_with fail
        go_ret
        refine ⟨rfl, HF.out.1, fun _ => ?_⟩
        have e : leadA A x (N : Int) = { A with path := O' } := by unfold leadA; rw [Int.toNat_natCast, hO'.out]
        rw [e]
        exact HF.out.2
      · skip
        have a0 := (HH.out.cells HS1.out.1).1
        go_simp
        refine hK.out _ _ ?_ (fun hHeld => ?_)
        · exact HX.out _ HS1.out.1
        clear hK K
        clear a0
        try simp only [Act.put, List.setIfInBounds_toArray, List.set_cons_zero, List.set_cons_succ, List.getElem_toArray, List.getElem_cons_zero, List.getElem_cons_succ]
        refine wpAnyH_ready (rs := [4]) (by kernel_rfl) (by simp) ?_
        refine AllReadyH.cons rfl (fun K hK => ?_) AllReadyH.nil
        go_simp
        refine (repeat_any x N g _ HG1.out hN).mono ?_
        rintro r x2 ⟨⟨v, rfl, ho⟩, hb⟩
        obtain ⟨HS2⟩ : Nonempty (Hid (LS W x2 B C ∧ Below W.heap.size W x2)) := ⟨⟨HS1.out.1.on hb HS1.out.1.2.2.2, HS1.out.2.trans (hb.mono HS1.out.2.size)⟩⟩
        obtain ⟨S1, hS1⟩ : ∃ s, Hid (x1.heap.size = s) := ⟨_, show _ = _ from rfl⟩
        rw [show x1.heap.size = S1 from hS1.out] at ho
        obtain ⟨HO2⟩ : Nonempty (Hid (World.ownsRow x2 S1 3 1 v (List.replicate N x).length ((List.replicate N x).map intV) ∧ C < S1 ∧ S1 ≤ x2.heap.size ∧ W.heap.size ≤ S1)) := ⟨⟨by rw [List.length_replicate]; exact ho, by rw [← show x1.heap.size = S1 from hS1.out]; exact HS1.out.1.2.2.2, by rw [← show x1.heap.size = S1 from hS1.out]; exact hb.size, by rw [← show x1.heap.size = S1 from hS1.out]; exact HS1.out.2.size⟩⟩
        clear ho hb hS1
        refine hK.out _ _ ?_ (fun hHeld => ?_)
        · exact HX.out _ HS2.out.1
        clear hK K
        try simp only [Act.put, List.setIfInBounds_toArray, List.set_cons_zero, List.set_cons_succ, List.getElem_toArray, List.getElem_cons_zero, List.getElem_cons_succ]
        refine wpAnyH_ready (rs := [9]) (by kernel_rfl) (by simp) ?_
        refine AllReadyH.cons rfl (fun K hK => ?_) AllReadyH.nil
        rw [if_pos (by rfl)]
        obtain ⟨O', hO'⟩ : ∃ O', Hid (List.replicate N x ++ A.path = O') := ⟨_, show _ = _ from rfl⟩
        refine op_addAll1 (.tmp 27) (.tmp 31) 22 rfl S1 3 i0 Tryz.underlying22 hi hz0 hz1 hz2 _ (List.replicate N x) rfl HO2.out.1 p A.path _ cp rfl rfl HH.out.2.2.2.1 (HH.out.2.1.below HS2.out.2) O' hO' (by simp; omega) HO2.out.2.2.1 ?_
        intro v' x3 hown' hb'
        obtain ⟨p1, c1, rfl, -, -, -⟩ := own_kind' hown'
        obtain ⟨HS3⟩ : Nonempty (Hid (LS W x3 B C)) := ⟨HS2.out.1.on hb' HO2.out.2.1⟩
        obtain ⟨HQ3⟩ : Nonempty (Hid (Ints x3 q A.tags)) := ⟨ints_on (HH.out.2.2.1) ((HS2.out.2).trans (hb'.mono HO2.out.2.2.2)) (Nat.le_refl _)⟩
        obtain ⟨HO3⟩ : Nonempty (Hid (World.ownsRow x3 S1 3 1 (.slice p1 O'.length c1) O'.length (O'.map intV))) := ⟨hown'⟩
        refine hK.out _ _ ?_ (fun hHeld => ?_)
        · exact HX.out _ HS3.out
        clear hK K hown' hb'
        try simp only [Act.put, List.setIfInBounds_toArray, List.set_cons_zero, List.set_cons_succ, List.getElem_toArray, List.getElem_cons_zero, List.getElem_cons_succ]
        refine wpAnyH_take (i := 10) (v := ?_) rfl (by kernel_rfl) (by kernel_rfl) (by kernel_rfl) (fun _ _ _ h => h) (Or.inl ⟨by rfl, ?_⟩) (by assumption) ?_
        rotate_left
        · (intro w hSw; (try dsimp only at hSw); go_simp; try (with_reducible rfl))
        try simp only [Act.put, List.setIfInBounds_toArray, List.set_cons_zero, List.set_cons_succ, List.getElem_toArray, List.getElem_cons_zero, List.getElem_cons_succ]
        refine wpAnyH_take (i := 11) (v := ?_) rfl (by kernel_rfl) (by kernel_rfl) (by kernel_rfl) (fun _ _ _ h => h) (Or.inl ⟨by rfl, ?_⟩) (by assumption) ?_
        rotate_left
        · (intro w hSw; (try dsimp only at hSw); go_simp; try (with_reducible rfl))
        try simp only [Act.put, List.setIfInBounds_toArray, List.set_cons_zero, List.set_cons_succ, List.getElem_toArray, List.getElem_cons_zero, List.getElem_cons_succ]
        refine wpAnyH_ready (rs := [12]) (by kernel_rfl) (by simp) ?_
        refine AllReadyH.cons rfl (fun K hK => ?_) AllReadyH.nil
        have a0 := (HH.out.cells HS3.out).1
        have z0 := HH.out.soft HS3.out 0
        go_simp
        obtain ⟨wf, hwf⟩ : ∃ y, Hid (x3.setCell ⟨C, 0, none⟩ (.slice p1 O'.length c1) = y) := ⟨_, show _ = _ from rfl⟩
        obtain ⟨HF⟩ : Nonempty (Hid (Below B W wf ∧ AR wf B C { A with path := O' })) := ⟨lead_end HH.out HS3.out HQ3.out HO3.out HO2.out.2.1 hwf.out⟩
        rw [show x3.setCell ⟨C, 0, none⟩ (.slice p1 O'.length c1) = wf from hwf.out]
        refine hK.out _ _ ?_ (fun hHeld => ?_)
        · exact ⟨by rw [HF.out.1.cell (p := ⟨X1, 0, none⟩) l1]; exact (HX.out W ⟨Below.refl _ _, rfl, HH.out.2.2.2.2.2.2.2.1, HH.out.2.2.2.2.2.2.2.2⟩).1, by rw [HF.out.1.cell (p := ⟨X2, 0, none⟩) l2]; exact (HX.out W ⟨Below.refl _ _, rfl, HH.out.2.2.2.2.2.2.2.1, HH.out.2.2.2.2.2.2.2.2⟩).2⟩
        clear hK K a0 z0
        try simp only [Act.put, List.setIfInBounds_toArray, List.set_cons_zero, List.set_cons_succ, List.getElem_toArray, List.getElem_cons_zero, List.getElem_cons_succ]
        refine wpAnyH_done (by kernel_rfl) ?_ _
        refine NoPanic.normal ?_
        clear hHeld
        go_wp2_with fail
        go_ret
        refine ⟨rfl, HF.out.1, fun _ => ?_⟩
        have e : leadA A x (N : Int) = { A with path := O' } := by unfold leadA; rw [Int.toNat_natCast, hO'.out]
        rw [e]
        exact HF.out.2
    · skip
      have a0 := (HH.out.cells HS0.out.1).1
      go_simp
      refine hK.out _ _ ?_ (fun hHeld => ?_)
      · exact HX.out _ HS0.out.1
      clear hK K
      clear a0
      try simp only [Act.put, List.setIfInBounds_toArray, List.set_cons_zero, List.set_cons_succ, List.getElem_toArray, List.getElem_cons_zero, List.getElem_cons_succ]
      refine wpAnyH_ready (rs := [2]) (by kernel_rfl) (by simp) ?_
      refine AllReadyH.cons rfl (fun K hK => ?_) AllReadyH.nil
      go_simp
      obtain ⟨g, hg⟩ : ∃ g, Hid (W5.drew.heap.size = g) := ⟨_, show _ = _ from rfl⟩
      obtain ⟨x1, hx1⟩ : ∃ y, Hid ((W5.alloc (.cells #[.int .i64 x] 3)).drew = y) := ⟨_, show _ = _ from rfl⟩
      have hb : Below W5.drew.heap.size W5.drew x1 := by rw [← show (W5.alloc (.cells #[.int .i64 x] 3)).drew = x1 from hx1.out]; exact below_alloc (W5.drew) _
      obtain ⟨HS1⟩ : Nonempty (Hid (LS W x1 B C ∧ Below W.heap.size W x1)) := ⟨⟨HS0.out.1.on hb HS0.out.1.2.2.2, HS0.out.2.trans (hb.mono HS0.out.2.size)⟩⟩
      obtain ⟨HG1⟩ : Nonempty (Hid (x1.cell? ⟨g, 0, none⟩ = some (intV x))) := ⟨by rw [← show (W5.alloc (.cells #[.int .i64 x] 3)).drew = x1 from hx1.out, ← show W5.drew.heap.size = g from hg.out]; exact box_one (W5.drew) _ _⟩
      rw [show (W5.alloc (.cells #[.int .i64 x] 3)).drew = x1 from hx1.out, show W5.heap.size = g from hg.out]
      clear hx1 hg hb
      refine hK.out _ _ ?_ (fun hHeld => ?_)
      · exact HX.out _ HS1.out.1
      clear hK K
      try simp only [Act.put, List.setIfInBounds_toArray, List.set_cons_zero, List.set_cons_succ, List.getElem_toArray, List.getElem_cons_zero, List.getElem_cons_succ]
      refine wpAnyH_ready (rs := [4]) (by kernel_rfl) (by simp) ?_
      refine AllReadyH.cons rfl (fun K hK => ?_) AllReadyH.nil
      go_simp
      refine (repeat_any x N g _ HG1.out hN).mono ?_
      rintro r x2 ⟨⟨v, rfl, ho⟩, hb⟩
      obtain ⟨HS2⟩ : Nonempty (Hid (LS W x2 B C ∧ Below W.heap.size W x2)) := ⟨⟨HS1.out.1.on hb HS1.out.1.2.2.2, HS1.out.2.trans (hb.mono HS1.out.2.size)⟩⟩
      obtain ⟨S1, hS1⟩ : ∃ s, Hid (x1.heap.size = s) := ⟨_, show _ = _ from rfl⟩
      rw [show x1.heap.size = S1 from hS1.out] at ho
      obtain ⟨HO2⟩ : Nonempty (Hid (World.ownsRow x2 S1 3 1 v (List.replicate N x).length ((List.replicate N x).map intV) ∧ C < S1 ∧ S1 ≤ x2.heap.size ∧ W.heap.size ≤ S1)) := ⟨⟨by rw [List.length_replicate]; exact ho, by rw [← show x1.heap.size = S1 from hS1.out]; exact HS1.out.1.2.2.2, by rw [← show x1.heap.size = S1 from hS1.out]; exact hb.size, by rw [← show x1.heap.size = S1 from hS1.out]; exact HS1.out.2.size⟩⟩
      clear ho hb hS1
      refine hK.out _ _ ?_ (fun hHeld => ?_)
      · exact HX.out _ HS2.out.1
      clear hK K
      try simp only [Act.put, List.setIfInBounds_toArray, List.set_cons_zero, List.set_cons_succ, List.getElem_toArray, List.getElem_cons_zero, List.getElem_cons_succ]
      refine wpAnyH_ready (rs := [9]) (by kernel_rfl) (by simp) ?_
      refine AllReadyH.cons rfl (fun K hK => ?_) AllReadyH.nil
      rw [if_pos (by rfl)]
      obtain ⟨O', hO'⟩ : ∃ O', Hid (List.replicate N x ++ A.path = O') := ⟨_, show _ = _ from rfl⟩
      refine op_addAll1 (.tmp 27) (.tmp 31) 22 rfl S1 3 i0 Tryz.underlying22 hi hz0 hz1 hz2 _ (List.replicate N x) rfl HO2.out.1 p A.path _ cp rfl rfl HH.out.2.2.2.1 (HH.out.2.1.below HS2.out.2) O' hO' (by simp; omega) HO2.out.2.2.1 ?_
      intro v' x3 hown' hb'
      obtain ⟨p1, c1, rfl, -, -, -⟩ := own_kind' hown'
      obtain ⟨HS3⟩ : Nonempty (Hid (LS W x3 B C)) := ⟨HS2.out.1.on hb' HO2.out.2.1⟩
      obtain ⟨HQ3⟩ : Nonempty (Hid (Ints x3 q A.tags)) := ⟨ints_on (HH.out.2.2.1) ((HS2.out.2).trans (hb'.mono HO2.out.2.2.2)) (Nat.le_refl _)⟩
      obtain ⟨HO3⟩ : Nonempty (Hid (World.ownsRow x3 S1 3 1 (.slice p1 O'.length c1) O'.length (O'.map intV))) := ⟨hown'⟩
      refine hK.out _ _ ?_ (fun hHeld => ?_)
      · exact HX.out _ HS3.out
      clear hK K hown' hb'
      try simp only [Act.put, List.setIfInBounds_toArray, List.set_cons_zero, List.set_cons_succ, List.getElem_toArray, List.getElem_cons_zero, List.getElem_cons_succ]
      refine wpAnyH_take (i := 10) (v := ?_) rfl (by kernel_rfl) (by kernel_rfl) (by kernel_rfl) (fun _ _ _ h => h) (Or.inl ⟨by rfl, ?_⟩) (by assumption) ?_
      rotate_left
      · (intro w hSw; (try dsimp only at hSw); go_simp; try (with_reducible rfl))
      try simp only [Act.put, List.setIfInBounds_toArray, List.set_cons_zero, List.set_cons_succ, List.getElem_toArray, List.getElem_cons_zero, List.getElem_cons_succ]
      refine wpAnyH_take (i := 11) (v := ?_) rfl (by kernel_rfl) (by kernel_rfl) (by kernel_rfl) (fun _ _ _ h => h) (Or.inl ⟨by rfl, ?_⟩) (by assumption) ?_
      rotate_left
      · (intro w hSw; (try dsimp only at hSw); go_simp; try (with_reducible rfl))
      try simp only [Act.put, List.setIfInBounds_toArray, List.set_cons_zero, List.set_cons_succ, List.getElem_toArray, List.getElem_cons_zero, List.getElem_cons_succ]
      refine wpAnyH_ready (rs := [12]) (by kernel_rfl) (by simp) ?_
      refine AllReadyH.cons rfl (fun K hK => ?_) AllReadyH.nil
      have a0 := (HH.out.cells HS3.out).1
      have z0 := HH.out.soft HS3.out 0
      go_simp
      obtain ⟨wf, hwf⟩ : ∃ y, Hid (x3.setCell ⟨C, 0, none⟩ (.slice p1 O'.length c1) = y) := ⟨_, show _ = _ from rfl⟩
      obtain ⟨HF⟩ : Nonempty (Hid (Below B W wf ∧ AR wf B C { A with path := O' })) := ⟨lead_end HH.out HS3.out HQ3.out HO3.out HO2.out.2.1 hwf.out⟩
      rw [show x3.setCell ⟨C, 0, none⟩ (.slice p1 O'.length c1) = wf from hwf.out]
      refine hK.out _ _ ?_ (fun hHeld => ?_)
      · exact ⟨by rw [HF.out.1.cell (p := ⟨X1, 0, none⟩) l1]; exact (HX.out W ⟨Below.refl _ _, rfl, HH.out.2.2.2.2.2.2.2.1, HH.out.2.2.2.2.2.2.2.2⟩).1, by rw [HF.out.1.cell (p := ⟨X2, 0, none⟩) l2]; exact (HX.out W ⟨Below.refl _ _, rfl, HH.out.2.2.2.2.2.2.2.1, HH.out.2.2.2.2.2.2.2.2⟩).2⟩
      clear hK K a0 z0
      try simp only [Act.put, List.setIfInBounds_toArray, List.set_cons_zero, List.set_cons_succ, List.getElem_toArray, List.getElem_cons_zero, List.getElem_cons_succ]
      refine wpAnyH_done (by kernel_rfl) ?_ _
      refine NoPanic.normal ?_
      clear hHeld
      go_wp2_with fail
      go_ret
      refine ⟨rfl, HF.out.1, fun _ => ?_⟩
      have e : leadA A x (N : Int) = { A with path := O' } := by unfold leadA; rw [Int.toNat_natCast, hO'.out]
      rw [e]
      exact HF.out.2
end Go.Proofs.YtbfdgflbflajdaaGreatDoor
