/-
  FibActs: what it leans on: acts in memory, errors by their numbers, the law's own asEntries and longActs.
-/
import Derived.Test.YthehpnhjfnenoabDoorRefSetT
import Derived.Test.YthehpnhjfnenoabDoorCode
namespace Go.Proofs.YthehpnhjfnenoabDoor
open Go.RowKit

/-- an act. -/
structure ActV where
  kind : ByteArray
  a : Int
  n : Int
  hop : Int
  q : Option Addr
  cap : Nat
  l : List Ent
def Acts (w : World) (p : Option Addr) (A : List ActV) : Prop :=
  ∀ i (h : i < A.length), ∃ b o, p = some ⟨b, o, none⟩ ∧ w.cell? ⟨b, o + i * 5, none⟩ = some (.string A[i].kind) ∧ w.cell? ⟨b, o + i * 5 + 1, none⟩ = some (.int .i64 A[i].a) ∧ w.cell? ⟨b, o + i * 5 + 2, none⟩ = some (.int .i64 A[i].n) ∧ w.cell? ⟨b, o + i * 5 + 3, none⟩ = some (.int .i64 A[i].hop) ∧ w.cell? ⟨b, o + i * 5 + 4, none⟩ = some (.slice A[i].q A[i].l.length A[i].cap) ∧ Ents w A[i].q A[i].l
def LongPost (A : List ActV) (w : World) (r : Ending) (w' : World) : Prop := ∃ x, r = .returned (.bool x) ∧ (x = false → A.length ≤ 80 ∧ ∀ i (h : i < A.length), A[i].l.length ≤ 70) ∧ w' = w
set_option linter.unusedVariables false in
set_option linter.unusedSimpArgs false in
set_option maxRecDepth 100000 in
theorem longActs_any (A : List ActV) (p : Option Addr) (cap : Nat) (w : World) (h : Acts w p A) (hm : A.length ≤ maxLen) :
    Calls Tryd.prog 25 #[.slice p A.length cap] w (LongPost A w) := by
  obtain ⟨HA⟩ : Nonempty (Hid (Acts w p A)) := ⟨h⟩
  clear h
  by_cases h80 : (80 : Int) < A.length
  · go_enter Tryd.func25, Tryd.ntmps25
    go_wp2
    go_ret
    exact ⟨true, rfl, fun h => (by cases h), rfl⟩
  · have q0 : (A.length : Int) ≤ 80 := by omega
    have q1 : decide ((80 : Int) < A.length) = false := decide_eq_false h80
    clear h80
    go_enter Tryd.func25, Tryd.ntmps25
    go_wp2
    go_loopw [2, 3] (fun _ i wr => ∃ k : Nat, i = .int .i64 k ∧ Hid (∀ j (_ : j < k) (h : j < A.length), A[j].l.length ≤ 70) ∧ k ≤ A.length ∧ Hid (w = wr)) (fun _ i _ => A.length - (intOf i).toNat)
    case atStart => exact ⟨0, rfl, fun j h => by omega, Nat.zero_le _, rfl⟩
    case round =>
      obtain ⟨k, rfl, HK, hkl, hw⟩ := hrel
      have hw' := hw.out
      subst hw'
      by_cases hlt : k < A.length
      · have q3 : (k : Int) < A.length := by omega
        obtain ⟨b, o, rfl, -, -, -, -, c4, -⟩ := HA.out k hlt
        obtain ⟨n, hn⟩ : ∃ n, Hid (A[k].l.length = n) := ⟨_, show _ = _ from rfl⟩
        rw [show A[k].l.length = n from hn.out] at c4
        obtain ⟨q, hq⟩ : ∃ n, Hid (A[k].q = n) := ⟨_, show _ = _ from rfl⟩
        obtain ⟨cp, hcp⟩ : ∃ n, Hid (A[k].cap = n) := ⟨_, show _ = _ from rfl⟩
        rw [show A[k].q = q from hq.out, show A[k].cap = cp from hcp.out] at c4
        by_cases h70 : (70 : Int) < n
        · have h70' : decide ((70 : Int) < n) = true := decide_eq_true h70
          go_wp2
          go_ret
          exact ⟨true, rfl, fun h => (by cases h), rfl⟩
        · have h70' : decide ((70 : Int) < n) = false := decide_eq_false h70
          obtain ⟨HN⟩ : Nonempty (Hid (∀ j (_ : j < k + 1) (h : j < A.length), A[j].l.length ≤ 70)) := ⟨fun j hj h => by
            rcases Nat.lt_or_ge j k with h' | h'
            · exact HK.out j h' h
            · obtain rfl : j = k := by omega
              rw [hn.out]; omega⟩
          go_wp2
          go_roundw
          case rel => exact ⟨k + 1, by go_num, HN, by omega, by first | exact True.intro | exact rfl⟩
          case measure => simp [intOf]; omega
      · obtain rfl : k = A.length := by omega
        go_wp2
        go_ret
        exact ⟨false, rfl, fun _ => ⟨by omega, fun i h => HK.out i h h⟩, rfl⟩
/-- an error's number, as it was asked. -/
theorem coded_ev (c : Nat) (hc : c ≤ 9) (E : Nat → Addr) (w : World) (h : ErrsLaid w E) :
    Calls Tryd.prog 27 #[ev E c, .int .i64 c] w fun r w' => r = .returned (.bool true) ∧ Below w.heap.size w w' := by
  cases c with
  | zero =>
    refine (coded_nil 0 w).mono fun e w' ⟨he, hw⟩ => ⟨by rw [he]; rfl, by rw [hw]; exact Below.refl _ _⟩
  | succ c =>
    refine (coded_plain c ((c + 1 : Nat) : Int) E w h (by omega)).mono fun e w' ⟨he, hw⟩ => ⟨by rw [he]; simp, hw⟩
theorem faulted_ok (v : Value) (f0 f1 : Int) (w : World) (hC : ∀ w', Below w.heap.size w w' → Calls Tryd.prog 51 #[v] w' fun ev w'' => ev = .returned (.tuple #[.int .i64 f0, .int .i64 f1]) ∧ Below w'.heap.size w' w'') :
    Calls Tryd.prog 30 #[v, .agg #[.int .i64 f0, .int .i64 f1]] w fun e w' => e = .returned (.bool true) ∧ Below w.heap.size w w' := by
  have hba := below_alloc w (.cells #[.int .i64 f0, .int .i64 f1] 63)
  obtain ⟨c0, c1⟩ := box_at w (.int .i64 f0) (.int .i64 f1) 63
  obtain ⟨HN⟩ : Nonempty (Hid (Calls _ _ _ _ _)) := ⟨hC _ hba⟩
  clear hC
  go_enter Tryd.func30, Tryd.ntmps30
  go_wp2_with fail
  refine HN.out.mono ?_
  clear HN
  rintro e w1 ⟨rfl, hb1⟩
  have hb := hba.trans (hb1.mono hba.size)
  have d0 := cell_kept hb1 c0
  have d1 := cell_kept hb1 c1
  have e0 : (f0 == f0) = true := by simp
  have e1 : (f1 == f1) = true := by simp
  clear hb1 c0 c1
  cases hz : (f0 == 0)
  all_goals
    go_wp2
    go_ret
    exact ⟨rfl, hb⟩
theorem faulted_nil (w : World) : Calls Tryd.prog 30 #[.nilIface, .agg #[.int .i64 0, .int .i64 (-1)]] w fun e w' => e = .returned (.bool true) ∧ Below w.heap.size w w' :=
  faulted_ok .nilIface 0 (-1) w fun w' _ => (code_nil w').mono fun _ _ ⟨he, hw⟩ => ⟨he, by rw [hw]; exact Below.refl _ _⟩
theorem faulted_at (b i k : Nat) (hk : k < 9) (E : Nat → Addr) (w : World) (h : ErrsLaid w E) (hf : w.heap[b]? = some (faultObj i (ev E (k + 1)))) :
    Calls Tryd.prog 30 #[.iface 86 (.pointer (some ⟨b, 0, none⟩)), .agg #[.int .i64 ((k : Int) + 1), .int .i64 i]] w fun e w' => e = .returned (.bool true) ∧ Below w.heap.size w w' := by
  refine faulted_ok _ _ _ w fun w' hb => ?_
  have hf' : w'.heap[b]? = some (faultObj i (ev E (k + 1))) := by rw [hb.block b (Array.getElem?_eq_some_iff.1 hf).1]; exact hf
  have c0 : w'.cell? ⟨b, 0, none⟩ = some (.int .i64 i) := by simp [World.cell?, hf', faultObj]
  have c1 : w'.cell? ⟨b, 1, none⟩ = some (.iface 180 (.pointer (some (E k)))) := by simp [World.cell?, hf', faultObj, ev]
  have h' := h.below hb
  have := code_fault b i (E k) k E w' h' (by omega) (h'.row k hk) c0 c1 (fun j hj => h'.apart k j hk (by omega) (by omega)) (fun _ => rfl)
  rw [if_pos hk] at this
  exact this
set_option linter.unusedVariables false in
set_option linter.unusedSimpArgs false in
set_option maxRecDepth 100000 in
set_option maxHeartbeats 1000000 in
theorem asEntries_any (l : List Ent) (p : Option Addr) (cap : Nat) (w : World) (h : Ents w p l) (hlen : l.length ≤ 1000000) :
    Calls Tryd.prog 31 #[.slice p l.length cap] w fun r w' => ∃ v, r = .returned v ∧ w'.ownsRow w.heap.size 44 3 v l.length (flat3 l) ∧ Below w.heap.size w w' := by
  obtain ⟨i0, hi, hz0, hz1, hz2⟩ := info_parts3 infoFEnt
  obtain ⟨HE⟩ : Nonempty (Hid (Ents w p l)) := ⟨h⟩
  obtain ⟨B, hB⟩ : ∃ b, Hid (w.heap.size = b) := ⟨_, show _ = _ from rfl⟩
  rw [show w.heap.size = B from hB.out]
  clear h
  go_enter Tryd.func31, Tryd.ntmps31
  go_wp2_with fail
  go_loopw [3, 4] (fun v i wr => ∃ (k : Nat) (O : List Ent), i = .int .i64 k ∧ Hid (l.take k = O) ∧ Hid (wr.ownsRow B 44 3 v O.length (flat3 O) ∧ Below B w wr) ∧ k ≤ l.length) (fun _ i _ => l.length - (intOf i).toNat)
  case atStart => exact ⟨0, [], rfl, by simp [Hid], ⟨World.ownsRow_nil _ _ _ _, Below.refl _ _⟩, Nat.zero_le _⟩
  case round =>
    obtain ⟨k, O, rfl, HO, HW, hkl⟩ := hrel
    by_cases hlt : k < l.length
    · have q3 : (k : Int) < l.length := by omega
      obtain ⟨b, o, rfl, c0, c1, c2⟩ := HE.out k hlt
      obtain ⟨⟨⟨x0, x1⟩, x2⟩, hx⟩ : ∃ x, Hid (l[k] = x) := ⟨_, show _ = _ from rfl⟩
      rw [hx.out] at c0 c1 c2
      simp only at c0 c1 c2
      obtain ⟨HS⟩ : Nonempty (Hid (∀ w', Below B w w' → w'.cell? ⟨b, o + k * 3, none⟩ = some (.int .i64 x0) ∧ w'.cell? ⟨b, o + k * 3 + 1, none⟩ = some (.int .i64 x1) ∧ w'.cell? ⟨b, o + k * 3 + 2, none⟩ = some (.int .i64 x2))) := ⟨fun w' hb => by
        rw [← show w.heap.size = B from hB.out] at hb
        exact ⟨cell_kept hb c0, cell_kept hb c1, cell_kept hb c2⟩⟩
      obtain ⟨O', HO'⟩ : ∃ O', Hid (O ++ [((x0, x1), x2)] = O') := ⟨_, show _ = _ from rfl⟩
      obtain ⟨HN⟩ : Nonempty (Hid (l.take (k + 1) = O')) := ⟨by rw [Hid, List.take_succ_eq_append_getElem hlt, HO.out, hx.out]; exact HO'.out⟩
      have hOl : O.length ≤ 1000000 := by rw [← HO.out]; simp; omega
      have hBr : B ≤ wr.heap.size := by have := HW.out.2.size; rw [hB.out] at this; exact this
      clear c0 c1 c2
      go_wp2_with fail
      refine wp_region_noPanic ?_
      refine wp_region_held_drew (S := (fun w' => w'.cell? ⟨b, o + k * 3, none⟩ = some (.int .i64 x0) ∧ w'.cell? ⟨b, o + k * 3 + 1, none⟩ = some (.int .i64 x1) ∧ w'.cell? ⟨b, o + k * 3 + 2, none⟩ = some (.int .i64 x2))) (by kernel_rfl) ?_ (fun hHeld => ?_)
      · exact HS.out _ HW.out.2.drew
      refine wpAnyH_take (i := 0) (v := ?_) rfl (by kernel_rfl) (by kernel_rfl) (by kernel_rfl) (fun _ _ _ h => h) (Or.inl ⟨by rfl, ?_⟩) (by assumption) ?_
      rotate_left
      · (intro w hSw; (try dsimp only at hSw); go_simp; try (with_reducible rfl))
      try simp only [Act.put, List.setIfInBounds_toArray, List.set_cons_zero, List.set_cons_succ, List.getElem_toArray, List.getElem_cons_zero, List.getElem_cons_succ]
      refine wpAnyH_take (i := 1) (v := ?_) rfl (by kernel_rfl) (by kernel_rfl) (by kernel_rfl) (fun _ _ _ h => h) (Or.inl ⟨by rfl, ?_⟩) (by assumption) ?_
      rotate_left
      · (intro w hSw; (try dsimp only at hSw); go_simp; try (with_reducible rfl))
      try simp only [Act.put, List.setIfInBounds_toArray, List.set_cons_zero, List.set_cons_succ, List.getElem_toArray, List.getElem_cons_zero, List.getElem_cons_succ]
      refine wpAnyH_take (i := 2) (v := ?_) rfl (by kernel_rfl) (by kernel_rfl) (by kernel_rfl) (fun _ _ _ h => h) (Or.inl ⟨by rfl, ?_⟩) (by assumption) ?_
      rotate_left
      · (intro w hSw; (try dsimp only at hSw); go_simp; try (with_reducible rfl))
      try simp only [Act.put, List.setIfInBounds_toArray, List.set_cons_zero, List.set_cons_succ, List.getElem_toArray, List.getElem_cons_zero, List.getElem_cons_succ]
      refine wpAnyH_take (i := 3) (v := ?_) rfl (by kernel_rfl) (by kernel_rfl) (by kernel_rfl) (fun _ _ _ h => h) (Or.inl ⟨by rfl, ?_⟩) (by assumption) ?_
      rotate_left
      · (intro w hSw; (try dsimp only at hSw); go_simp; try (with_reducible rfl))
      try simp only [Act.put, List.setIfInBounds_toArray, List.set_cons_zero, List.set_cons_succ, List.getElem_toArray, List.getElem_cons_zero, List.getElem_cons_succ]
      refine wpAnyH_take (i := 4) (v := ?_) rfl (by kernel_rfl) (by kernel_rfl) (by kernel_rfl) (fun _ _ _ h => h) (Or.inl ⟨by rfl, ?_⟩) (by assumption) ?_
      rotate_left
      · (intro w hSw; (try dsimp only at hSw); go_simp; try (with_reducible rfl))
      try simp only [Act.put, List.setIfInBounds_toArray, List.set_cons_zero, List.set_cons_succ, List.getElem_toArray, List.getElem_cons_zero, List.getElem_cons_succ]
      refine wpAnyH_take (i := 5) (v := ?_) rfl (by kernel_rfl) (by kernel_rfl) (by kernel_rfl) (fun _ _ _ h => h) (Or.inl ⟨by rfl, ?_⟩) (by assumption) ?_
      rotate_left
      · (intro w hSw; (try dsimp only at hSw); go_simp; try (with_reducible rfl))
      try simp only [Act.put, List.setIfInBounds_toArray, List.set_cons_zero, List.set_cons_succ, List.getElem_toArray, List.getElem_cons_zero, List.getElem_cons_succ]
      refine wpAnyH_take (i := 6) (v := ?_) rfl (by kernel_rfl) (by kernel_rfl) (by kernel_rfl) (fun _ _ _ h => h) (Or.inl ⟨by rfl, ?_⟩) (by assumption) ?_
      rotate_left
      · (intro w hSw; (try dsimp only at hSw); go_simp; try (with_reducible rfl))
      try simp only [Act.put, List.setIfInBounds_toArray, List.set_cons_zero, List.set_cons_succ, List.getElem_toArray, List.getElem_cons_zero, List.getElem_cons_succ]
      refine wpAnyH_take (i := 7) (v := ?_) rfl (by kernel_rfl) (by kernel_rfl) (by kernel_rfl) (fun _ _ _ h => h) (Or.inl ⟨by rfl, ?_⟩) (by assumption) ?_
      rotate_left
      · (intro w hSw; (try dsimp only at hSw); go_simp; try (with_reducible rfl))
      try simp only [Act.put, List.setIfInBounds_toArray, List.set_cons_zero, List.set_cons_succ, List.getElem_toArray, List.getElem_cons_zero, List.getElem_cons_succ]
      refine wpAnyH_take (i := 8) (v := ?_) rfl (by kernel_rfl) (by kernel_rfl) (by kernel_rfl) (fun _ _ _ h => h) (Or.inl ⟨by rfl, ?_⟩) (by assumption) ?_
      rotate_left
      · (intro w hSw; (try dsimp only at hSw); go_simp; try (with_reducible rfl))
      try simp only [Act.put, List.setIfInBounds_toArray, List.set_cons_zero, List.set_cons_succ, List.getElem_toArray, List.getElem_cons_zero, List.getElem_cons_succ]
      refine wpAnyH_take (i := 9) (v := ?_) rfl (by kernel_rfl) (by kernel_rfl) (by kernel_rfl) (fun _ _ _ h => h) (Or.inl ⟨by rfl, ?_⟩) (by assumption) ?_
      rotate_left
      · (intro w hSw; (try dsimp only at hSw); go_simp; try (with_reducible rfl))
      try simp only [Act.put, List.setIfInBounds_toArray, List.set_cons_zero, List.set_cons_succ, List.getElem_toArray, List.getElem_cons_zero, List.getElem_cons_succ]
      refine wpAnyH_take (i := 10) (v := ?_) rfl (by kernel_rfl) (by kernel_rfl) (by kernel_rfl) (fun _ _ _ h => h) (Or.inl ⟨by rfl, ?_⟩) (by assumption) ?_
      rotate_left
      · (intro w hSw; (try dsimp only at hSw); go_simp; try (with_reducible rfl))
      try simp only [Act.put, List.setIfInBounds_toArray, List.set_cons_zero, List.set_cons_succ, List.getElem_toArray, List.getElem_cons_zero, List.getElem_cons_succ]
      refine wpAnyH_take (i := 11) (v := ?_) rfl (by kernel_rfl) (by kernel_rfl) (by kernel_rfl) (fun _ _ _ h => h) (Or.inl ⟨by rfl, ?_⟩) (by assumption) ?_
      rotate_left
      · (intro w hSw; (try dsimp only at hSw); go_simp; try (with_reducible rfl))
      try simp only [Act.put, List.setIfInBounds_toArray, List.set_cons_zero, List.set_cons_succ, List.getElem_toArray, List.getElem_cons_zero, List.getElem_cons_succ]
      refine wpAnyH_ready (rs := [12]) (by kernel_rfl) (by simp) ?_
      refine AllReadyH.cons rfl (fun K hK => ?_) AllReadyH.nil
      go_simp
      have hbA : Below B w (wr.drew.alloc (.cells #[.int .i64 x0, .int .i64 x1, .int .i64 x2] 44)) := HW.out.2.drew.alloc hBr _
      refine hK.out _ _ ?_ (fun hHeld => ?_)
      · exact HS.out _ hbA
      clear hK K
      try simp only [Act.put, List.setIfInBounds_toArray, List.set_cons_zero, List.set_cons_succ, List.getElem_toArray, List.getElem_cons_zero, List.getElem_cons_succ]
      have hownD : wr.drew.ownsRow B 44 3 _ O.length (flat3 O) := HW.out.1
      refine wpAnyH_ready (rs := [13]) (by kernel_rfl) (by simp) ?_
      refine AllReadyH.cons rfl (fun K hK => ?_) AllReadyH.nil
      rw [if_pos (by rfl)]
      rw [show (wr.alloc (.cells #[.int .i64 x0, .int .i64 x1, .int .i64 x2] 44)).drew = wr.drew.alloc (.cells #[.int .i64 x0, .int .i64 x1, .int .i64 x2] 44) from rfl]
      refine op_push3 (.tmp 11) (.tmp 23) 39 rfl B 44 i0 Tryd.underlying39 hi hz0 hz1 hz2 _ O rfl hownD x0 x1 x2 _ rfl (by simp) O' HO' (by omega) hBr ?_
      intro v' w5 hown5 hb5
      have hb6 := HW.out.2.drew.trans hb5
      obtain ⟨HP⟩ : Nonempty (Hid (w5.ownsRow B 44 3 v' O'.length (flat3 O') ∧ Below B w w5)) := ⟨⟨hown5, hb6⟩⟩
      clear hown5 hb5 hb6 hownD hbA hHeld
      refine hK.out _ _ ?_ (fun hHeld => ?_)
      · exact HS.out _ HP.out.2
      clear hK K
      try simp only [Act.put, List.setIfInBounds_toArray, List.set_cons_zero, List.set_cons_succ, List.getElem_toArray, List.getElem_cons_zero, List.getElem_cons_succ]
      refine wpAnyH_take (i := 14) (v := ?_) rfl (by kernel_rfl) (by kernel_rfl) (by kernel_rfl) (fun _ _ _ h => h) (Or.inl ⟨by rfl, ?_⟩) (by assumption) ?_
      rotate_left
      · (intro w hSw; (try dsimp only at hSw); go_simp; try (with_reducible rfl))
      try simp only [Act.put, List.setIfInBounds_toArray, List.set_cons_zero, List.set_cons_succ, List.getElem_toArray, List.getElem_cons_zero, List.getElem_cons_succ]
      refine wpAnyH_done (by kernel_rfl) ?_ _
      refine NoPanic.normal ?_
      clear hHeld
      go_wp2_with fail
      go_roundw
      case rel => first | exact ⟨k + 1, O', by go_num, HN, ⟨HP.out.1, HP.out.2⟩, by omega⟩ | ((repeat apply Exists.intro); exact ⟨⟨k + 1, O', by go_num, HN, ⟨HP.out.1, HP.out.2⟩, by omega⟩, rfl⟩)
      case measure => simp [intOf]; omega
    · obtain rfl : k = l.length := by omega
      have hO : O = l := by rw [← HO.out, List.take_length]
      subst hO
      go_wp2_with fail
      go_ret
      exact ⟨_, rfl, HW.out.1, HW.out.2⟩
end Go.Proofs.YthehpnhjfnenoabDoor
