/-
  Package place: Bare and First: what they return.
-/
import Derived.Test.YtkebcfjofeoehaaGreatDoorAttrEnv
namespace Go.Proofs.YtkebcfjofeoehaaGreatDoor
open Go.RowKit

theorem isErr_cases {w : World} {E : Nat → Addr} {v : Value} {c : Nat} {d : Int} (h : IsErr w E v c d) : (c = 0 ∧ v = .nilIface) ∨ (0 < c ∧ ∃ t a, v = .iface t (.pointer (some a))) := by
  rcases h with ⟨h0, h1⟩ | ⟨h0, h1, b, e, -⟩
  · cases c with
    | zero => exact .inl ⟨rfl, h1⟩
    | succ c => exact .inr ⟨by omega, _, _, h1⟩
  · exact .inr ⟨h1, _, _, e⟩

set_option linter.unusedVariables false in
set_option maxRecDepth 100000 in
set_option maxHeartbeats 2000000 in
theorem bare_any (v : Value) (c : Nat) (d : Int) (E : Nat → Addr) (m : Int) (w : World) (hE : AttrEnv w E m) (h : IsErr w E v c d) (hc : 0 < c) :
    Calls Tryz.prog 34 #[v] w fun r w' => r = .returned (ev E c) ∧ Below w.heap.size w w' := by
  cases c with
  | zero => omega
  | succ c =>
  rcases h with ⟨-, rfl⟩ | ⟨h0, -, b, rfl, x, y⟩
  · simp only [ev]
    obtain ⟨a, ha⟩ : ∃ a, Hid (E c = a) := ⟨_, show _ = _ from rfl⟩
    rw [show E c = a from ha.out]
    obtain ⟨HC⟩ : Nonempty (Hid (Calls _ _ _ _ _)) := ⟨as_miss' a w hE.hand⟩
    clear hE
    go_enter Tryz.func34, Tryz.ntmps34
    go_wp2_with fail
    refine HC.out.mono ?_
    rintro e w1 ⟨rfl, hb1⟩
    go_wp2_with fail
    go_ret
    exact ⟨rfl, hb1⟩
  · obtain ⟨HC⟩ : Nonempty (Hid (Calls _ _ _ _ _)) := ⟨as_hit' ⟨b, 0, none⟩ w hE.hand⟩
    obtain ⟨HY⟩ : Nonempty (Hid (_ = _)) := ⟨y⟩
    obtain ⟨u, hu⟩ : ∃ u, Hid (ev E (c + 1) = u) := ⟨_, show _ = _ from rfl⟩
    rw [show ev E (c + 1) = u from hu.out] at HY ⊢
    clear hE x y
    go_enter Tryz.func34, Tryz.ntmps34
    go_wp2_with fail
    refine HC.out.mono ?_
    rintro e w1 ⟨rfl, hb1, hf⟩
    have hy := cell_kept hb1 HY.out
    go_wp2_with fail
    go_ret
    exact ⟨rfl, hb1⟩

/-- a question of a place, as a function of the program's: the number of the error that it answers; I: what stands ahead of place k; J: what stands behind an error. -/
structure Told (f : Nat) (cs : Array Value) (E : Nat → Addr) (m : Int) (n : Nat) (q : Nat → Nat) (I : Nat → World → Prop) (J : World → Prop) : Prop where
  enters : ∀ args w, (callFunc f args).run Tryz.prog w = .ok (.enter f args) w
  says : ∀ k W, k < n → I k W → Calls Tryz.prog f (#[.int .i64 (k : Int)] ++ cs) W fun r w' => (∃ v d, r = .returned v ∧ IsErr w' E v (q k) d) ∧ (q k = 0 → I (k + 1) w') ∧ (q k ≠ 0 → J w')
  env : ∀ w, J w → AttrEnv w E m
  on : ∀ w w', J w → Below w.heap.size w w' → J w'

set_option linter.unusedVariables false in
set_option maxRecDepth 100000 in
set_option maxHeartbeats 4000000 in
theorem first_any (n : Nat) (f : Nat) (cs : Array Value) (E : Nat → Addr) (m : Int) (q : Nat → Nat) (I : Nat → World → Prop) (J : World → Prop) (w : World) (hq : Told f cs E m n q I J) (h0 : I 0 w) (hn : n ≤ 1000000) :
    Calls Tryz.prog 53 #[.int .i64 (n : Int), .func (.func f) #[] cs] w fun r w' => (∃ v, r = .returned v ∧ IsErr w' E v (firstQ q n).1 (firstQ q n).2) ∧ ((firstQ q n).1 = 0 → I n w') ∧ ((firstQ q n).1 ≠ 0 → J w') := by
  have heg := hq.enters
  have HQ : Hid (Told f cs E m n q I J) := hq
  have H0 : Hid (I 0 w) := h0
  clear hq h0
  go_enter Tryz.func53, Tryz.ntmps53
  go_wp2_with fail
  go_loopw [8] (fun i wr => ∃ (j : Nat), i = .int .i64 j ∧ Hid (j ≤ firstN (fun k => decide (q k ≠ 0)) n ∧ I j wr) ∧ j ≤ n) (fun i _ => n - (intOf i).toNat)
  case atStart => exact ⟨0, rfl, ⟨Nat.zero_le _, H0.out⟩, Nat.zero_le _⟩
  case round =>
    obtain ⟨j, rfl, HK, hjl⟩ := hrel
    by_cases hlt : j < n
    · have q3 : (j : Int) < n := by omega
      obtain ⟨HC⟩ : Nonempty (Hid (Calls _ _ _ _ _)) := ⟨HQ.out.says j wr hlt HK.out.2⟩
      obtain ⟨c, hc⟩ : ∃ c, Hid (q j = c) := ⟨_, show _ = _ from rfl⟩
      rw [show q j = c from hc.out] at HC
      cases c with
      | zero =>
        obtain ⟨HN⟩ : Nonempty (Hid (j + 1 ≤ firstN (fun k => decide (q k ≠ 0)) n)) := ⟨firstN_step HK.out.1 hlt (by simp [hc.out])⟩
        go_wp2_with fail
        refine HC.out.mono ?_
        rintro e w1 ⟨⟨v, d, rfl, hv⟩, hi, -⟩
        obtain ⟨-, rfl⟩ : _ ∧ v = .nilIface := by
          rcases isErr_cases hv with h | ⟨h, -⟩
          · exact h
          · omega
        obtain ⟨HI⟩ : Nonempty (Hid (I (j + 1) w1)) := ⟨hi (by simp)⟩
        clear hi hv
        go_wp2_with fail
        go_roundw
        case rel => exact ⟨j + 1, by go_num, ⟨HN.out, HI.out⟩, by omega⟩
        case measure => simp [intOf]; omega
      | succ c =>
        obtain ⟨HN⟩ : Nonempty (Hid (firstN (fun k => decide (q k ≠ 0)) n = j)) := ⟨firstN_here HK.out.1 (by simp [hc.out])⟩
        have HF : Hid (firstQ q n = (c + 1, (j : Int))) := by
          show _ = _
          unfold firstQ
          rw [HN.out, if_pos hlt, hc.out]
        go_wp2_with fail
        refine HC.out.mono ?_
        rintro e w1 ⟨⟨v, d, rfl, hv⟩, -, hj⟩
        have hJ := hj (by omega)
        obtain ⟨HB⟩ : Nonempty (Hid (Calls _ _ _ _ _)) := ⟨bare_any v (c + 1) d E m w1 (HQ.out.env _ hJ) hv (by omega)⟩
        obtain ⟨HJ⟩ : Nonempty (Hid (J w1)) := ⟨hJ⟩
        obtain ⟨t, a, rfl⟩ : ∃ t a, v = .iface t (.pointer (some a)) := by
          rcases isErr_cases hv with ⟨h, -⟩ | ⟨-, h⟩
          · omega
          · exact h
        clear hv hj hJ
        go_wp2_with fail
        refine HB.out.mono ?_
        rintro e w2 ⟨rfl, hb2⟩
        simp only [ev]
        obtain ⟨u, hu⟩ : ∃ u, Hid (E c = u) := ⟨_, show _ = _ from rfl⟩
        rw [show E c = u from hu.out]
        have HJ2 : Hid (J w2) := HQ.out.on _ _ HJ.out hb2
        clear hb2
        go_wp2_with fail
        go_ret
        rw [HF.out]
        refine ⟨⟨_, rfl, ?_⟩, fun h => by simp at h, fun _ => HQ.out.on _ _ HJ2.out (below_alloc _ _)⟩
        refine .inr ⟨by simp, by simp, w2.heap.size, rfl, ?_, ?_⟩
        · simp
        · simp [ev, hu.out]
    · obtain rfl : j = n := by omega
      have HF : Hid (firstQ q j = (0, -1)) := by
        show _ = _
        unfold firstQ
        rw [firstN_end HK.out.1, if_neg (by omega)]
      go_wp2_with fail
      go_ret
      rw [HF.out]
      exact ⟨⟨_, rfl, isErr_nil _ _⟩, fun _ => HK.out.2, fun h => absurd rfl h⟩
/-- a question that changes nothing, and answers without a place. -/
theorem firstAsk_any (n : Nat) (f : Nat) (cv : Value) (E : Nat → Addr) (m : Int) (q : Nat → Nat) (w : World) (hE : AttrEnv w E m) (hq : Asked f cv E n q w) (hn : n ≤ 1000000) :
    Calls Tryz.prog 53 #[.int .i64 (n : Int), .func (.func f) #[] #[cv]] w fun r w' => (∃ v, r = .returned v ∧ IsErr w' E v (firstQ q n).1 (firstQ q n).2) ∧ Below w.heap.size w w' := by
  refine (first_any n f #[cv] E m q (fun _ W => Below w.heap.size w W) (fun W => Below w.heap.size w W) w ⟨hq.enters, fun k W hk hb => ?_, fun W hb => hE.below hb, fun W W' hb hb' => hb.trans (hb'.mono hb.size)⟩ (Below.refl _ _) hn).mono ?_
  · refine (hq.says k W hk hb).mono ?_
    rintro r w' ⟨rfl, hb'⟩
    exact ⟨⟨_, -1, rfl, .inl ⟨rfl, rfl⟩⟩, fun _ => hb.trans (hb'.mono hb.size), fun _ => hb.trans (hb'.mono hb.size)⟩
  · rintro r w' ⟨h1, h2, h3⟩
    refine ⟨h1, ?_⟩
    by_cases h : (firstQ q n).1 = 0
    · exact h2 h
    · exact h3 h
end Go.Proofs.YtkebcfjofeoehaaGreatDoor
