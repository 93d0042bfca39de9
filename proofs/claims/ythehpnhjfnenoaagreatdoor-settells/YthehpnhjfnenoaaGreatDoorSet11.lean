/-
  Package set's Or, And, Not: what each returns, at whatever prefixes.
-/
import Derived.Test.YthehpnhjfnenoaaGreatDoorSet10
namespace Go.Proofs.YthehpnhjfnenoaaGreatDoor
open Go.RowKit

theorem asks_Or : Asks 28 (fun x y => x || y) := by
  refine ⟨enters_of Tryz.func28 (by kernel_rfl) rfl, ?_⟩
  intro a b W
  cases a <;> cases b
  all_goals
    go_enter Tryz.func28, Tryz.ntmps28
    go_wp2
    go_ret
    exact ⟨rfl, rfl⟩
set_option maxRecDepth 100000 in
set_option maxHeartbeats 4000000 in
theorem Or_any (a b : List (Int × Int)) (i j : Nat) (hRa : RightTo a i) (hRb : RightTo b j) (pa pb : Option Addr) (ca cb : Nat) (et eb es : Addr) (w : World) (hE : SetEnv w et eb es) (hpa : Pairs w pa a) (hpb : Pairs w pb b) (hla : a.length ≤ 137438953472) (hlb : b.length ≤ 137438953472) :
    Calls Tryz.prog 14 #[.slice pa a.length ca, .slice pb b.length cb] w fun e w' => ((i = a.length ∧ j = b.length ∧ ∃ L v, e = .returned (.tuple #[v, .nilIface]) ∧ Holdn w' v L (askB (fun x y => x || y) a b)) ∨
      (∃ v, e = .returned (.tuple #[.slice none 0 0, v]) ∧ Faults w' v a i eb es) ∨ (i = a.length ∧ ∃ v, e = .returned (.tuple #[.slice none 0 0, v]) ∧ Faults w' v b j eb es)) ∧ Below w.heap.size w w' := by
  obtain ⟨HC⟩ : Nonempty (Hid (Calls _ _ _ _ _)) := ⟨setWhere_any 28 (fun x y => x || y) asks_Or rfl a b i j hRa hRb pa pb ca cb et eb es w hE hpa hpb hla hlb⟩
  clear hRa hRb hE hpa hpb hla hlb
  obtain ⟨g, hg⟩ : ∃ g, Hid (askB (fun x y => x || y) a b = g) := ⟨_, show _ = _ from rfl⟩
  rw [show askB (fun x y => x || y) a b = g from hg.out]
  go_enter Tryz.func14, Tryz.ntmps14
  go_wp2_with fail
  refine HC.out.mono ?_
  rw [show askB (fun x y => x || y) a b = g from hg.out]
  rintro e w1 ⟨⟨hi, hj, L, v, rfl, hG⟩ | ⟨v, rfl, hG⟩ | ⟨hi, v, rfl, hG⟩, hb⟩
  · obtain ⟨HK⟩ : Nonempty (Hid (i = a.length ∧ j = b.length ∧ Holdn w1 v L g)) := ⟨⟨hi, hj, hG⟩⟩
    clear hi hj hG HC
    go_wp2
    exact bodyPost_ret (v := .tuple #[v, .nilIface]) (by simp [results, Tryz.results14, go_sem]) rfl ⟨.inl ⟨HK.out.1, HK.out.2.1, L, v, rfl, HK.out.2.2⟩, hb⟩
  · obtain ⟨HK⟩ : Nonempty (Hid (Faults w1 v a i eb es)) := ⟨hG⟩
    clear hG HC
    go_wp2
    exact bodyPost_ret (v := .tuple #[.slice none 0 0, v]) (by simp [results, Tryz.results14, go_sem]) rfl ⟨.inr (.inl ⟨v, rfl, HK.out⟩), hb⟩
  · obtain ⟨HK⟩ : Nonempty (Hid (i = a.length ∧ Faults w1 v b j eb es)) := ⟨⟨hi, hG⟩⟩
    clear hi hG HC
    go_wp2
    exact bodyPost_ret (v := .tuple #[.slice none 0 0, v]) (by simp [results, Tryz.results14, go_sem]) rfl ⟨.inr (.inr ⟨HK.out.1, v, rfl, HK.out.2⟩), hb⟩

theorem asks_And : Asks 29 (fun x y => x && y) := by
  refine ⟨enters_of Tryz.func29 (by kernel_rfl) rfl, ?_⟩
  intro a b W
  cases a <;> cases b
  all_goals
    go_enter Tryz.func29, Tryz.ntmps29
    go_wp2
    go_ret
    exact ⟨rfl, rfl⟩
set_option maxRecDepth 100000 in
set_option maxHeartbeats 4000000 in
theorem And_any (a b : List (Int × Int)) (i j : Nat) (hRa : RightTo a i) (hRb : RightTo b j) (pa pb : Option Addr) (ca cb : Nat) (et eb es : Addr) (w : World) (hE : SetEnv w et eb es) (hpa : Pairs w pa a) (hpb : Pairs w pb b) (hla : a.length ≤ 137438953472) (hlb : b.length ≤ 137438953472) :
    Calls Tryz.prog 15 #[.slice pa a.length ca, .slice pb b.length cb] w fun e w' => ((i = a.length ∧ j = b.length ∧ ∃ L v, e = .returned (.tuple #[v, .nilIface]) ∧ Holdn w' v L (askB (fun x y => x && y) a b)) ∨
      (∃ v, e = .returned (.tuple #[.slice none 0 0, v]) ∧ Faults w' v a i eb es) ∨ (i = a.length ∧ ∃ v, e = .returned (.tuple #[.slice none 0 0, v]) ∧ Faults w' v b j eb es)) ∧ Below w.heap.size w w' := by
  obtain ⟨HC⟩ : Nonempty (Hid (Calls _ _ _ _ _)) := ⟨setWhere_any 29 (fun x y => x && y) asks_And rfl a b i j hRa hRb pa pb ca cb et eb es w hE hpa hpb hla hlb⟩
  clear hRa hRb hE hpa hpb hla hlb
  obtain ⟨g, hg⟩ : ∃ g, Hid (askB (fun x y => x && y) a b = g) := ⟨_, show _ = _ from rfl⟩
  rw [show askB (fun x y => x && y) a b = g from hg.out]
  go_enter Tryz.func15, Tryz.ntmps15
  go_wp2_with fail
  refine HC.out.mono ?_
  rw [show askB (fun x y => x && y) a b = g from hg.out]
  rintro e w1 ⟨⟨hi, hj, L, v, rfl, hG⟩ | ⟨v, rfl, hG⟩ | ⟨hi, v, rfl, hG⟩, hb⟩
  · obtain ⟨HK⟩ : Nonempty (Hid (i = a.length ∧ j = b.length ∧ Holdn w1 v L g)) := ⟨⟨hi, hj, hG⟩⟩
    clear hi hj hG HC
    go_wp2
    exact bodyPost_ret (v := .tuple #[v, .nilIface]) (by simp [results, Tryz.results15, go_sem]) rfl ⟨.inl ⟨HK.out.1, HK.out.2.1, L, v, rfl, HK.out.2.2⟩, hb⟩
  · obtain ⟨HK⟩ : Nonempty (Hid (Faults w1 v a i eb es)) := ⟨hG⟩
    clear hG HC
    go_wp2
    exact bodyPost_ret (v := .tuple #[.slice none 0 0, v]) (by simp [results, Tryz.results15, go_sem]) rfl ⟨.inr (.inl ⟨v, rfl, HK.out⟩), hb⟩
  · obtain ⟨HK⟩ : Nonempty (Hid (i = a.length ∧ Faults w1 v b j eb es)) := ⟨⟨hi, hG⟩⟩
    clear hi hG HC
    go_wp2
    exact bodyPost_ret (v := .tuple #[.slice none 0 0, v]) (by simp [results, Tryz.results15, go_sem]) rfl ⟨.inr (.inr ⟨HK.out.1, v, rfl, HK.out.2⟩), hb⟩

theorem asks_Not : Asks 30 (fun x y => x && !y) := by
  refine ⟨enters_of Tryz.func30 (by kernel_rfl) rfl, ?_⟩
  intro a b W
  cases a <;> cases b
  all_goals
    go_enter Tryz.func30, Tryz.ntmps30
    go_wp2
    go_ret
    exact ⟨rfl, rfl⟩
set_option maxRecDepth 100000 in
set_option maxHeartbeats 4000000 in
theorem Not_any (a b : List (Int × Int)) (i j : Nat) (hRa : RightTo a i) (hRb : RightTo b j) (pa pb : Option Addr) (ca cb : Nat) (et eb es : Addr) (w : World) (hE : SetEnv w et eb es) (hpa : Pairs w pa a) (hpb : Pairs w pb b) (hla : a.length ≤ 137438953472) (hlb : b.length ≤ 137438953472) :
    Calls Tryz.prog 16 #[.slice pa a.length ca, .slice pb b.length cb] w fun e w' => ((i = a.length ∧ j = b.length ∧ ∃ L v, e = .returned (.tuple #[v, .nilIface]) ∧ Holdn w' v L (askB (fun x y => x && !y) a b)) ∨
      (∃ v, e = .returned (.tuple #[.slice none 0 0, v]) ∧ Faults w' v a i eb es) ∨ (i = a.length ∧ ∃ v, e = .returned (.tuple #[.slice none 0 0, v]) ∧ Faults w' v b j eb es)) ∧ Below w.heap.size w w' := by
  obtain ⟨HC⟩ : Nonempty (Hid (Calls _ _ _ _ _)) := ⟨setWhere_any 30 (fun x y => x && !y) asks_Not rfl a b i j hRa hRb pa pb ca cb et eb es w hE hpa hpb hla hlb⟩
  clear hRa hRb hE hpa hpb hla hlb
  obtain ⟨g, hg⟩ : ∃ g, Hid (askB (fun x y => x && !y) a b = g) := ⟨_, show _ = _ from rfl⟩
  rw [show askB (fun x y => x && !y) a b = g from hg.out]
  go_enter Tryz.func16, Tryz.ntmps16
  go_wp2_with fail
  refine HC.out.mono ?_
  rw [show askB (fun x y => x && !y) a b = g from hg.out]
  rintro e w1 ⟨⟨hi, hj, L, v, rfl, hG⟩ | ⟨v, rfl, hG⟩ | ⟨hi, v, rfl, hG⟩, hb⟩
  · obtain ⟨HK⟩ : Nonempty (Hid (i = a.length ∧ j = b.length ∧ Holdn w1 v L g)) := ⟨⟨hi, hj, hG⟩⟩
    clear hi hj hG HC
    go_wp2
    exact bodyPost_ret (v := .tuple #[v, .nilIface]) (by simp [results, Tryz.results16, go_sem]) rfl ⟨.inl ⟨HK.out.1, HK.out.2.1, L, v, rfl, HK.out.2.2⟩, hb⟩
  · obtain ⟨HK⟩ : Nonempty (Hid (Faults w1 v a i eb es)) := ⟨hG⟩
    clear hG HC
    go_wp2
    exact bodyPost_ret (v := .tuple #[.slice none 0 0, v]) (by simp [results, Tryz.results16, go_sem]) rfl ⟨.inr (.inl ⟨v, rfl, HK.out⟩), hb⟩
  · obtain ⟨HK⟩ : Nonempty (Hid (i = a.length ∧ Faults w1 v b j eb es)) := ⟨⟨hi, hG⟩⟩
    clear hi hG HC
    go_wp2
    exact bodyPost_ret (v := .tuple #[.slice none 0 0, v]) (by simp [results, Tryz.results16, go_sem]) rfl ⟨.inr (.inr ⟨HK.out.1, v, rfl, HK.out.2⟩), hb⟩
end Go.Proofs.YthehpnhjfnenoaaGreatDoor
