/-
  Package set's spansWhere: what a question says yes to, of two sets, as spans.
-/
import Derived.Test.YthehpnhjfnenoaaDoorSet8
namespace Go.Proofs.YthehpnhjfnenoaaDoor
open Go.RowKit

theorem Left.later {w : World} {X : List (Int × Int)} {a a' : Int} {q : Option Addr} {n c j : Nat} (h : Left w X a q n c j) (ha : a ≤ a') : Left w X a' q n c j :=
  ⟨h.sum, fun s hs => Int.le_trans (h.over s hs) ha, h.row, h.cap⟩
theorem left_start {w : World} {X : List (Int × Int)} {a : Int} {q : Option Addr} {c : Nat} (h : Pairs w q X) (hc : X.length ≤ c ∧ c ≤ maxLen) : Left w X a q X.length c 0 :=
  ⟨rfl, by simp, by simpa using h, hc⟩
theorem up1_lt {E : List Int} (h : Up1 E) (m : Nat) (hm : m + 1 < E.length) : E[m] < E[m + 1] := by
  induction E generalizing m with
  | nil => simp at hm
  | cons a E ih =>
    cases m with
    | zero => exact h.1 _ (List.getElem_mem _)
    | succ m => exact ih h.2 m (by simpa using hm)
theorem cutsW_step (f : Int → Bool) (E : List Int) (m : Nat) (hm : m + 1 < E.length) : cutsW f (E.drop m) = (if f E[m] = true then [(E[m], E[m + 1])] else []) ++ cutsW f (E.drop (m + 1)) := by
  rw [List.drop_eq_getElem_cons (by omega : m < E.length), List.drop_eq_getElem_cons hm]
  conv => lhs; unfold cutsW
  split <;> simp
theorem cutsW_end (f : Int → Bool) (E : List Int) (m : Nat) (hm : ¬ m + 1 < E.length) : cutsW f (E.drop m) = [] := by
  rcases Nat.lt_or_ge m E.length with h | h
  · rw [List.drop_eq_getElem_cons h, List.drop_of_length_le (by omega)]; rfl
  · rw [List.drop_of_length_le (by omega)]; rfl
/-- what a question of two Booleans answers, as a function of the program's. -/
structure Asks (f : Nat) (q : Bool → Bool → Bool) : Prop where
  enters : ∀ args w, (callFunc f args).run Tryd.prog w = .ok (.enter f args) w
  says : ∀ a b W, Calls Tryd.prog f #[.bool a, .bool b] W fun e w' => e = .returned (.bool (q a b)) ∧ w' = W

set_option linter.unusedVariables false in
set_option linter.unusedSimpArgs false in
set_option maxRecDepth 100000 in
set_option maxHeartbeats 8000000 in
theorem spansWhere_any (fq : Nat) (q : Bool → Bool → Bool) (hq : Asks fq q) (X Y : List (Int × Int)) (px py : Option Addr) (cx cy : Nat) (w : World) (hx : Pairs w px X) (hy : Pairs w py Y) (hX : X.length ≤ 137438953472) (hY : Y.length ≤ 137438953472)
    (hcx : X.length ≤ cx ∧ cx ≤ maxLen) (hcy : Y.length ≤ cy ∧ cy ≤ maxLen) (hSX : Sep X) (hSY : Sep Y) :
    Calls Tryd.prog 84 #[.slice px X.length cx, .slice py Y.length cy, .func (.func fq) #[] #[]] w fun e w' => (∃ E v, e = .returned v ∧ Up1 E ∧ (∀ z, z ∈ E ↔ z ∈ edgesL X ++ edgesL Y) ∧
      w'.ownsRow w.heap.size 93 2 v (joinS (cutsW (fun a => q (inSB X a) (inSB Y a)) E)).length (flat2 (joinS (cutsW (fun a => q (inSB X a) (inSB Y a)) E)))) ∧ Below w.heap.size w w' := by
  obtain ⟨i0, hi, hz0, hz1, hz2⟩ := info_parts infoSpan
  obtain ⟨B, hB⟩ : ∃ B, Hid (w.heap.size = B) := ⟨_, show _ = _ from rfl⟩
  rw [show w.heap.size = B from hB.out]
  obtain ⟨f, hf⟩ : ∃ f : Int → Bool, Hid ((fun a => q (inSB X a) (inSB Y a)) = f) := ⟨_, show _ = _ from rfl⟩
  rw [show (fun a => q (inSB X a) (inSB Y a)) = f from hf.out]
  obtain ⟨HED⟩ : Nonempty (Hid (Calls _ _ _ _ _)) := ⟨edgesOf_any X Y px py cx cy w hx hy (by omega) (by omega)⟩
  obtain ⟨HP⟩ : Nonempty (Hid (Pairs w px X ∧ Pairs w py Y)) := ⟨⟨hx, hy⟩⟩
  have HSX : Hid (Sep X) := hSX
  have HSY : Hid (Sep Y) := hSY
  have HQ : Hid (Asks fq q) := hq
  have heg := hq.enters
  clear hx hy hSX hSY hq
  go_enter Tryd.func84, Tryd.ntmps84
  go_wp2_with fail
  refine HED.out.mono ?_
  rintro e w1 ⟨⟨E, pe, ce, rfl, hup, hmem, hEl, hints⟩, hb1⟩
  obtain ⟨HE⟩ : Nonempty (Hid (Up1 E ∧ (∀ z, z ∈ E ↔ z ∈ edgesL X ++ edgesL Y) ∧ Ints w1 pe E)) := ⟨⟨hup, hmem, hints⟩⟩
  obtain ⟨HP1⟩ : Nonempty (Hid (Pairs w1 px X ∧ Pairs w1 py Y)) := ⟨⟨HP.out.1.below hb1, HP.out.2.below hb1⟩⟩
  obtain ⟨HB1⟩ : Nonempty (Hid (Below B w w1)) := ⟨by rw [← show w.heap.size = B from hB.out]; exact hb1⟩
  clear hup hmem hints hb1 HED HP
  go_wp2
  go_loopw [0, 1, 8, 9] (fun x y v z wr => ∃ (m : Nat) (qx qy : Option Addr) (nx ny dx dy jx jy : Nat) (O : List (Int × Int)), z = .int .i64 ((m : Int) + 1) ∧ x = .slice qx nx dx ∧ y = .slice qy ny dy ∧
    Hid (∀ h : m < E.length, Left w1 X E[m] qx nx dx jx ∧ Left w1 Y E[m] qy ny dy jy) ∧ nx ≤ 137438953472 ∧ ny ≤ 137438953472 ∧ Hid (O ++ cutsW f (E.drop m) = cutsW f E) ∧ O.length ≤ m ∧ m ≤ E.length + 1 ∧ wr.ownsRow w1.heap.size 93 2 v O.length (flat2 O) ∧ Below w1.heap.size w1 wr) (fun _ _ _ z _ => (E.length + 1) - (intOf z).toNat)
  case atStart => exact ⟨0, px, py, X.length, Y.length, cx, cy, 0, 0, [], rfl, rfl, rfl, fun h => ⟨left_start HP1.out.1 hcx, left_start HP1.out.2 hcy⟩, by omega, by omega, by simp [Hid], by simp, by omega, World.ownsRow_nil _ _ _ _, Below.refl _ _⟩
  case round =>
    obtain ⟨m, qx, qy, nx, ny, dx, dy, jx, jy, O, rfl, rfl, rfl, HL, hnx, hny, HO, hOm, hmE, hown, hb⟩ := hrel
    by_cases hlt : m + 1 < E.length
    · obtain ⟨be, oe, rfl, e0⟩ := HE.out.2.2 m (by omega)
      obtain ⟨be', oe', he', e1⟩ := HE.out.2.2 (m + 1) hlt
      simp only [Option.some.injEq, Addr.mk.injEq, and_true] at he'
      obtain ⟨rfl, rfl⟩ := he'
      obtain ⟨hLX, hLY⟩ := HL.out (by omega)
      have hup := up1_lt HE.out.1 m hlt
      have hst := cutsW_step f E m hlt
      obtain ⟨a, ha⟩ : ∃ a, Hid (E[m] = a) := ⟨_, show _ = _ from rfl⟩
      obtain ⟨a', ha'⟩ : ∃ a, Hid (E[m + 1] = a) := ⟨_, show _ = _ from rfl⟩
      rw [show E[m] = a from ha.out] at e0 hLX hLY hup hst
      rw [show E[m + 1] = a' from ha'.out] at e1 hup hst
      obtain ⟨HST⟩ : Nonempty (Hid (_ = _)) := ⟨hst⟩
      have hbe : be < w1.heap.size := cell_lt' e0
      obtain ⟨HBE⟩ : Nonempty (Hid (∀ w', Below w1.heap.size w1 w' → w'.cell? ⟨be, oe + m, none⟩ = some (.int .i64 a) ∧ w'.cell? ⟨be, oe + (m + 1), none⟩ = some (.int .i64 a'))) := ⟨fun w' h => ⟨cell_kept h e0, cell_kept h e1⟩⟩
      have f0 := (HBE.out wr hb).1
      have hwm : IntKind.i64.wrap (m : Int) = (m : Int) := wrapN _ (by omega)
      have hm0 : (m : Int) < (E.length : Int) := by omega
      have hlt' : (m : Int) + 1 < (E.length : Int) := by omega
      have hge : (0 : Int) ≤ (m : Int) + 1 := by omega
      obtain ⟨HDX⟩ : Nonempty (Hid (Calls _ _ _ _ _)) := ⟨dropEnded_any X a qx nx dx jx w1 wr HSX.out hb hLX (by omega)⟩
      obtain ⟨HLY⟩ : Nonempty (Hid (Left w1 Y a qy ny dy jy)) := ⟨hLY⟩
      clear hLX hLY hst e0 e1
      go_wp2_with fail
      refine HDX.out.mono ?_
      rintro e w2 ⟨⟨qx', nx', dx', jx', rfl, hLX', hnx'⟩, hb2⟩
      have hb2' := hb.trans (hb2.mono hb.size)
      have hown2 := own_below hown hb2
      obtain ⟨HLX'⟩ : Nonempty (Hid (Left w1 X a qx' nx' dx' jx')) := ⟨hLX'⟩
      have f2 := (HBE.out w2 hb2').1
      obtain ⟨HDY⟩ : Nonempty (Hid (Calls _ _ _ _ _)) := ⟨dropEnded_any Y a qy ny dy jy w1 w2 HSY.out hb2' HLY.out (by omega)⟩
      obtain ⟨iX, hiX⟩ : ∃ b, Hid (inSB X a = b) := ⟨_, show _ = _ from rfl⟩
      obtain ⟨iY, hiY⟩ : ∃ b, Hid (inSB Y a = b) := ⟨_, show _ = _ from rfl⟩
      rw [show inSB X a = iX from hiX.out]
      rw [show inSB Y a = iY from hiY.out] at HDY
      clear hLX' hb2 hown hb HDX f0
      go_wp2_with fail
      refine HDY.out.mono ?_
      rintro e w3 ⟨⟨qy', ny', dy', jy', rfl, hLY', hny'⟩, hb3⟩
      have hb3' := hb2'.trans (hb3.mono hb2'.size)
      have hown3 := own_below hown2 hb3
      obtain ⟨HLY'⟩ : Nonempty (Hid (Left w1 Y a qy' ny' dy' jy')) := ⟨hLY'⟩
      clear hLY' hb3 hown2 hb2' HDY f2
      obtain ⟨HNEXT⟩ : Nonempty (Hid (∀ h : m + 1 < E.length, Left w1 X E[m + 1] qx' nx' dx' jx' ∧ Left w1 Y E[m + 1] qy' ny' dy' jy')) := ⟨fun h => by rw [show E[m + 1] = a' from ha'.out]; exact ⟨HLX'.out.later (by omega), HLY'.out.later (by omega)⟩⟩
      go_wp2_with fail
      refine (HQ.out.says iX iY w3).mono ?_
      rintro e w4 ⟨rfl, hw4⟩
      have hb4 : Below w1.heap.size w1 w4 := by rw [hw4]; exact hb3'
      have hown4 : w4.ownsRow w1.heap.size 93 2 u8 O.length (flat2 O) := by rw [hw4]; exact hown3
      clear hw4 hb3' hown3
      cases hqv : q iX iY with
      | false =>
        obtain ⟨HF⟩ : Nonempty (Hid (f a = false)) := ⟨by rw [Hid, ← show (fun a => q (inSB X a) (inSB Y a)) = f from hf.out]; simp only; rw [show inSB X a = iX from hiX.out, show inSB Y a = iY from hiY.out]; exact hqv⟩
        clear hqv
        go_wp2
        go_roundw
        case rel =>
          refine ⟨m + 1, qx', qy', nx', ny', dx', dy', jx', jy', O, by go_num, rfl, rfl, HNEXT.out, by omega, by omega, ?_, by omega, by omega, hown4, hb4⟩
          rw [Hid, ← HO.out, HST.out, HF.out]; simp
        case measure => simp [intOf]; omega
      | true =>
        obtain ⟨HF⟩ : Nonempty (Hid (f a = true)) := ⟨by rw [Hid, ← show (fun a => q (inSB X a) (inSB Y a)) = f from hf.out]; simp only; rw [show inSB X a = iX from hiX.out, show inSB Y a = iY from hiY.out]; exact hqv⟩
        clear hqv
        go_wp2
        refine wp_region_held_drew (S := (fun w' => w'.cell? ⟨be, oe + m, none⟩ = some (.int .i64 a) ∧ w'.cell? ⟨be, oe + (m + 1), none⟩ = some (.int .i64 a'))) (by kernel_rfl) ?_ (fun hHeld => ?_)
        · exact HBE.out _ hb4.drew
        refine wpAnyH_take (i := 0) (v := ?_) rfl (by kernel_rfl) (by kernel_rfl) (by kernel_rfl) (fun _ _ _ h => h) (Or.inl ⟨by rfl, ?_⟩) (by assumption) ?_
        rotate_left
        · (intro w hSw; (try dsimp only at hSw); go_simp; try (with_reducible rfl))
        try simp only [Act.put, List.setIfInBounds_toArray, List.set_cons_zero, List.set_cons_succ, List.getElem_toArray, List.getElem_cons_zero, List.getElem_cons_succ]
        refine wpAnyH_take (i := 1) (v := ?_) rfl (by kernel_rfl) (by kernel_rfl) (by kernel_rfl) (fun _ _ _ h => h) (Or.inl ⟨by rfl, ?_⟩) (by assumption) ?_
        rotate_left
        · (intro w hSw; (try dsimp only at hSw); go_simp; try (with_reducible rfl))
        try simp only [Act.put, List.setIfInBounds_toArray, List.set_cons_zero, List.set_cons_succ, List.getElem_toArray, List.getElem_cons_zero, List.getElem_cons_succ]
        refine wpAnyH_take (i := 2) (v := ?_) rfl (by kernel_rfl) (by kernel_rfl) (by kernel_rfl) (fun _ _ _ h => h) (Or.inl ⟨by rfl, ?_⟩) (by assumption) ?_
        rotate_left
        · (intro w hSw; (try dsimp only at hSw); go_simp; try (with_reducible rfl))
        try simp only [Act.put, List.setIfInBounds_toArray, List.set_cons_zero, List.set_cons_succ, List.getElem_toArray, List.getElem_cons_zero, List.getElem_cons_succ]
        refine wpAnyH_take (i := 3) (v := ?_) rfl (by kernel_rfl) (by kernel_rfl) (by kernel_rfl) (fun _ _ _ h => h) (Or.inl ⟨by rfl, ?_⟩) (by assumption) ?_
        rotate_left
        · (intro w hSw; (try dsimp only at hSw); go_simp; try (with_reducible rfl))
        try simp only [Act.put, List.setIfInBounds_toArray, List.set_cons_zero, List.set_cons_succ, List.getElem_toArray, List.getElem_cons_zero, List.getElem_cons_succ]
        refine wpAnyH_take (i := 4) (v := ?_) rfl (by kernel_rfl) (by kernel_rfl) (by kernel_rfl) (fun _ _ _ h => h) (Or.inl ⟨by rfl, ?_⟩) (by assumption) ?_
        rotate_left
        · (intro w hSw; (try dsimp only at hSw); go_simp; try (with_reducible rfl))
        try simp only [Act.put, List.setIfInBounds_toArray, List.set_cons_zero, List.set_cons_succ, List.getElem_toArray, List.getElem_cons_zero, List.getElem_cons_succ]
        refine wpAnyH_take (i := 5) (v := ?_) rfl (by kernel_rfl) (by kernel_rfl) (by kernel_rfl) (fun _ _ _ h => h) (Or.inl ⟨by rfl, ?_⟩) (by assumption) ?_
        rotate_left
        · (intro w hSw; (try dsimp only at hSw); go_simp; try (with_reducible rfl))
        try simp only [Act.put, List.setIfInBounds_toArray, List.set_cons_zero, List.set_cons_succ, List.getElem_toArray, List.getElem_cons_zero, List.getElem_cons_succ]
        refine wpAnyH_take (i := 6) (v := ?_) rfl (by kernel_rfl) (by kernel_rfl) (by kernel_rfl) (fun _ _ _ h => h) (Or.inl ⟨by rfl, ?_⟩) (by assumption) ?_
        rotate_left
        · (intro w hSw; (try dsimp only at hSw); go_simp; try (with_reducible rfl))
        try simp only [Act.put, List.setIfInBounds_toArray, List.set_cons_zero, List.set_cons_succ, List.getElem_toArray, List.getElem_cons_zero, List.getElem_cons_succ]
        refine wpAnyH_take (i := 7) (v := ?_) rfl (by kernel_rfl) (by kernel_rfl) (by kernel_rfl) (fun _ _ _ h => h) (Or.inl ⟨by rfl, ?_⟩) (by assumption) ?_
        rotate_left
        · (intro w hSw; (try dsimp only at hSw); go_simp; try (with_reducible rfl))
        try simp only [Act.put, List.setIfInBounds_toArray, List.set_cons_zero, List.set_cons_succ, List.getElem_toArray, List.getElem_cons_zero, List.getElem_cons_succ]
        refine wpAnyH_take (i := 8) (v := ?_) rfl (by kernel_rfl) (by kernel_rfl) (by kernel_rfl) (fun _ _ _ h => h) (Or.inl ⟨by rfl, ?_⟩) (by assumption) ?_
        rotate_left
        · (intro w hSw; (try dsimp only at hSw); go_simp; try (with_reducible rfl))
        try simp only [Act.put, List.setIfInBounds_toArray, List.set_cons_zero, List.set_cons_succ, List.getElem_toArray, List.getElem_cons_zero, List.getElem_cons_succ]
        refine wpAnyH_take (i := 9) (v := ?_) rfl (by kernel_rfl) (by kernel_rfl) (by kernel_rfl) (fun _ _ _ h => h) (Or.inl ⟨by rfl, ?_⟩) (by assumption) ?_
        rotate_left
        · (intro w hSw; (try dsimp only at hSw); go_simp; try (with_reducible rfl))
        try simp only [Act.put, List.setIfInBounds_toArray, List.set_cons_zero, List.set_cons_succ, List.getElem_toArray, List.getElem_cons_zero, List.getElem_cons_succ]
        refine wpAnyH_take (i := 10) (v := ?_) rfl (by kernel_rfl) (by kernel_rfl) (by kernel_rfl) (fun _ _ _ h => h) (Or.inl ⟨by rfl, ?_⟩) (by assumption) ?_
        rotate_left
        · (intro w hSw; (try dsimp only at hSw); go_simp; try (with_reducible rfl))
        try simp only [Act.put, List.setIfInBounds_toArray, List.set_cons_zero, List.set_cons_succ, List.getElem_toArray, List.getElem_cons_zero, List.getElem_cons_succ]
        refine wpAnyH_ready (rs := [11]) (by kernel_rfl) (by simp) ?_
        refine AllReadyH.cons rfl (fun K hK => ?_) AllReadyH.nil
        go_simp
        have hKeep := And.intro (cell_kept (below_alloc w4.drew (.cells #[.int .i64 a, .int .i64 a'] 93)) hHeld.1) (cell_kept (below_alloc w4.drew (.cells #[.int .i64 a, .int .i64 a'] 93)) hHeld.2)
        clear hHeld
        refine hK.out _ _ ?_ (fun hHeld => ?_)
        · exact hKeep
        clear hK K hKeep
        try simp only [Act.put, List.setIfInBounds_toArray, List.set_cons_zero, List.set_cons_succ, List.getElem_toArray, List.getElem_cons_zero, List.getElem_cons_succ]
        obtain ⟨O', HO'⟩ : ∃ O', Hid (O ++ [(a, a')] = O') := ⟨_, show _ = _ from rfl⟩
        refine wpAnyH_ready (rs := [12]) (by kernel_rfl) (by simp) ?_
        refine AllReadyH.cons rfl (fun K hK => ?_) AllReadyH.nil
        rw [if_pos (by rfl)]
        refine op_push (.tmp 45) (.tmp 56) 85 rfl w1.heap.size 93 i0 Tryd.underlying85 hi hz0 hz1 hz2 u8 O rfl (W := w4.drew) hown4.drew a a' _ rfl (by simp) O' HO' (by omega) (by exact hb4.size) ?_
        intro v' w5 hown5 hb5 hk5
        have hnx5 : Below w1.heap.size w1 w5 := (hb4.drew).trans hb5
        have hKeep := HBE.out _ hnx5
        clear hHeld hk5 hown4 hb5 hb4
        refine hK.out _ _ ?_ (fun hHeld => ?_)
        · exact hKeep
        clear hK K hKeep
        try simp only [Act.put, List.setIfInBounds_toArray, List.set_cons_zero, List.set_cons_succ, List.getElem_toArray, List.getElem_cons_zero, List.getElem_cons_succ]
        refine wpAnyH_take (i := 13) (v := ?_) rfl (by kernel_rfl) (by kernel_rfl) (by kernel_rfl) (fun _ _ _ h => h) (Or.inl ⟨by rfl, ?_⟩) (by assumption) ?_
        rotate_left
        · (intro w hSw; (try dsimp only at hSw); go_simp; try (with_reducible rfl))
        try simp only [Act.put, List.setIfInBounds_toArray, List.set_cons_zero, List.set_cons_succ, List.getElem_toArray, List.getElem_cons_zero, List.getElem_cons_succ]
        refine wpAnyH_done (by kernel_rfl) ?_ _
        clear hHeld
        go_wp2
        go_roundw
        case rel =>
          refine ⟨m + 1, qx', qy', nx', ny', dx', dy', jx', jy', O', by go_num, rfl, rfl, HNEXT.out, by omega, by omega, ?_, ?_, by omega, hown5, hnx5⟩
          · rw [Hid, ← HO'.out, ← HO.out, HST.out, HF.out]; simp
          · rw [← HO'.out]; simp; omega
        case measure => simp [intOf]; omega
    · obtain ⟨q8, c8, hv8, -, -, hp8⟩ := own_pairs hown
      subst hv8
      have hOe : O = cutsW f E := by have := HO.out; rw [cutsW_end f E m hlt, List.append_nil] at this; exact this
      obtain ⟨HJ⟩ : Nonempty (Hid (Calls _ _ _ _ _)) := ⟨joined_any O q8 c8 wr hp8 (by omega)⟩
      obtain ⟨HOE⟩ : Nonempty (Hid (O = cutsW f E)) := ⟨hOe⟩
      have hnot : ¬ (m : Int) + 1 < (E.length : Int) := by omega
      clear hOe hp8 hown
      go_wp2_with fail
      refine HJ.out.mono ?_
      rintro e w3 ⟨⟨v, rfl, hown3⟩, hb3⟩
      have hb3' := hb.trans (hb3.mono hb.size)
      have hB1 : B ≤ w1.heap.size := by rw [← hB.out]; exact HB1.out.size
      have hbB := HB1.out.trans (hb3'.mono hB1)
      obtain ⟨T, hT⟩ : ∃ T, Hid (joinS O = T) := ⟨_, show _ = _ from rfl⟩
      rw [show joinS O = T from hT.out] at hown3
      have hown4 := own_mono hown3 (Nat.le_trans hB1 hb.size)
      clear hown3 hb3 hb3' hb
      go_wp2
      go_ret
      refine ⟨⟨E, _, rfl, HE.out.1, HE.out.2.1, ?_⟩, hbB⟩
      rw [← HOE.out, show joinS O = T from hT.out]
      exact hown4
end Go.Proofs.YthehpnhjfnenoaaDoor
