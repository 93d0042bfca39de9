/-
  Package set's Or, And, Not: what each returns, at whatever prefixes.
-/
import Derived.Test.YthehpnhjfnenoaaDoorSet10
namespace Go.Proofs.YthehpnhjfnenoaaDoor
open Go.RowKit

theorem asks_Or : Asks 65 (fun x y => x || y) := by
  refine ⟨enters_of Tryd.func65 (by kernel_rfl) rfl, ?_⟩
  intro a b W
  cases a <;> cases b
  all_goals
    go_enter Tryd.func65, Tryd.ntmps65
    go_wp2
    go_ret
    exact ⟨rfl, rfl⟩
set_option maxRecDepth 100000 in
set_option maxHeartbeats 4000000 in
theorem Or_any (a b : List (Int × Int)) (i j : Nat) (hRa : RightTo a i) (hRb : RightTo b j) (pa pb : Option Addr) (ca cb : Nat) (et eb es : Addr) (w : World) (hE : SetEnv w et eb es) (hpa : Pairs w pa a) (hpb : Pairs w pb b) (hla : a.length ≤ 137438953472) (hlb : b.length ≤ 137438953472) :
    Calls Tryd.prog 40 #[.slice pa a.length ca, .slice pb b.length cb] w fun e w' => ((i = a.length ∧ j = b.length ∧ ∃ L v, e = .returned (.tuple #[v, .nilIface]) ∧ Holdn w' v L (askB (fun x y => x || y) a b)) ∨
      (∃ v, e = .returned (.tuple #[.slice none 0 0, v]) ∧ Faults w' v a i eb es) ∨ (i = a.length ∧ ∃ v, e = .returned (.tuple #[.slice none 0 0, v]) ∧ Faults w' v b j eb es)) ∧ Below w.heap.size w w' := by
  obtain ⟨HC⟩ : Nonempty (Hid (Calls _ _ _ _ _)) := ⟨setWhere_any 65 (fun x y => x || y) asks_Or rfl a b i j hRa hRb pa pb ca cb et eb es w hE hpa hpb hla hlb⟩
  clear hRa hRb hE hpa hpb hla hlb
  obtain ⟨g, hg⟩ : ∃ g, Hid (askB (fun x y => x || y) a b = g) := ⟨_, show _ = _ from rfl⟩
  rw [show askB (fun x y => x || y) a b = g from hg.out]
  go_enter Tryd.func40, Tryd.ntmps40
  go_wp2_with fail
  refine HC.out.mono ?_
  rw [show askB (fun x y => x || y) a b = g from hg.out]
  rintro e w1 ⟨⟨hi, hj, L, v, rfl, hG⟩ | ⟨v, rfl, hG⟩ | ⟨hi, v, rfl, hG⟩, hb⟩
  · obtain ⟨HK⟩ : Nonempty (Hid (i = a.length ∧ j = b.length ∧ Holdn w1 v L g)) := ⟨⟨hi, hj, hG⟩⟩
    clear hi hj hG HC
    go_wp2
    exact bodyPost_ret (v := .tuple #[v, .nilIface]) (by simp [results, Tryd.results40, go_sem]) rfl ⟨.inl ⟨HK.out.1, HK.out.2.1, L, v, rfl, HK.out.2.2⟩, hb⟩
  · obtain ⟨HK⟩ : Nonempty (Hid (Faults w1 v a i eb es)) := ⟨hG⟩
    clear hG HC
    go_wp2
    exact bodyPost_ret (v := .tuple #[.slice none 0 0, v]) (by simp [results, Tryd.results40, go_sem]) rfl ⟨.inr (.inl ⟨v, rfl, HK.out⟩), hb⟩
  · obtain ⟨HK⟩ : Nonempty (Hid (i = a.length ∧ Faults w1 v b j eb es)) := ⟨⟨hi, hG⟩⟩
    clear hi hG HC
    go_wp2
    exact bodyPost_ret (v := .tuple #[.slice none 0 0, v]) (by simp [results, Tryd.results40, go_sem]) rfl ⟨.inr (.inr ⟨HK.out.1, v, rfl, HK.out.2⟩), hb⟩

theorem asks_And : Asks 66 (fun x y => x && y) := by
  refine ⟨enters_of Tryd.func66 (by kernel_rfl) rfl, ?_⟩
  intro a b W
  cases a <;> cases b
  all_goals
    go_enter Tryd.func66, Tryd.ntmps66
    go_wp2
    go_ret
    exact ⟨rfl, rfl⟩
set_option maxRecDepth 100000 in
set_option maxHeartbeats 4000000 in
theorem And_any (a b : List (Int × Int)) (i j : Nat) (hRa : RightTo a i) (hRb : RightTo b j) (pa pb : Option Addr) (ca cb : Nat) (et eb es : Addr) (w : World) (hE : SetEnv w et eb es) (hpa : Pairs w pa a) (hpb : Pairs w pb b) (hla : a.length ≤ 137438953472) (hlb : b.length ≤ 137438953472) :
    Calls Tryd.prog 41 #[.slice pa a.length ca, .slice pb b.length cb] w fun e w' => ((i = a.length ∧ j = b.length ∧ ∃ L v, e = .returned (.tuple #[v, .nilIface]) ∧ Holdn w' v L (askB (fun x y => x && y) a b)) ∨
      (∃ v, e = .returned (.tuple #[.slice none 0 0, v]) ∧ Faults w' v a i eb es) ∨ (i = a.length ∧ ∃ v, e = .returned (.tuple #[.slice none 0 0, v]) ∧ Faults w' v b j eb es)) ∧ Below w.heap.size w w' := by
  obtain ⟨HC⟩ : Nonempty (Hid (Calls _ _ _ _ _)) := ⟨setWhere_any 66 (fun x y => x && y) asks_And rfl a b i j hRa hRb pa pb ca cb et eb es w hE hpa hpb hla hlb⟩
  clear hRa hRb hE hpa hpb hla hlb
  obtain ⟨g, hg⟩ : ∃ g, Hid (askB (fun x y => x && y) a b = g) := ⟨_, show _ = _ from rfl⟩
  rw [show askB (fun x y => x && y) a b = g from hg.out]
  go_enter Tryd.func41, Tryd.ntmps41
  go_wp2_with fail
  refine HC.out.mono ?_
  rw [show askB (fun x y => x && y) a b = g from hg.out]
  rintro e w1 ⟨⟨hi, hj, L, v, rfl, hG⟩ | ⟨v, rfl, hG⟩ | ⟨hi, v, rfl, hG⟩, hb⟩
  · obtain ⟨HK⟩ : Nonempty (Hid (i = a.length ∧ j = b.length ∧ Holdn w1 v L g)) := ⟨⟨hi, hj, hG⟩⟩
    clear hi hj hG HC
    go_wp2
    exact bodyPost_ret (v := .tuple #[v, .nilIface]) (by simp [results, Tryd.results41, go_sem]) rfl ⟨.inl ⟨HK.out.1, HK.out.2.1, L, v, rfl, HK.out.2.2⟩, hb⟩
  · obtain ⟨HK⟩ : Nonempty (Hid (Faults w1 v a i eb es)) := ⟨hG⟩
    clear hG HC
    go_wp2
    exact bodyPost_ret (v := .tuple #[.slice none 0 0, v]) (by simp [results, Tryd.results41, go_sem]) rfl ⟨.inr (.inl ⟨v, rfl, HK.out⟩), hb⟩
  · obtain ⟨HK⟩ : Nonempty (Hid (i = a.length ∧ Faults w1 v b j eb es)) := ⟨⟨hi, hG⟩⟩
    clear hi hG HC
    go_wp2
    exact bodyPost_ret (v := .tuple #[.slice none 0 0, v]) (by simp [results, Tryd.results41, go_sem]) rfl ⟨.inr (.inr ⟨HK.out.1, v, rfl, HK.out.2⟩), hb⟩

theorem asks_Not : Asks 67 (fun x y => x && !y) := by
  refine ⟨enters_of Tryd.func67 (by kernel_rfl) rfl, ?_⟩
  intro a b W
  cases a <;> cases b
  all_goals
    go_enter Tryd.func67, Tryd.ntmps67
    go_wp2
    go_ret
    exact ⟨rfl, rfl⟩
set_option maxRecDepth 100000 in
set_option maxHeartbeats 4000000 in
theorem Not_any (a b : List (Int × Int)) (i j : Nat) (hRa : RightTo a i) (hRb : RightTo b j) (pa pb : Option Addr) (ca cb : Nat) (et eb es : Addr) (w : World) (hE : SetEnv w et eb es) (hpa : Pairs w pa a) (hpb : Pairs w pb b) (hla : a.length ≤ 137438953472) (hlb : b.length ≤ 137438953472) :
    Calls Tryd.prog 42 #[.slice pa a.length ca, .slice pb b.length cb] w fun e w' => ((i = a.length ∧ j = b.length ∧ ∃ L v, e = .returned (.tuple #[v, .nilIface]) ∧ Holdn w' v L (askB (fun x y => x && !y) a b)) ∨
      (∃ v, e = .returned (.tuple #[.slice none 0 0, v]) ∧ Faults w' v a i eb es) ∨ (i = a.length ∧ ∃ v, e = .returned (.tuple #[.slice none 0 0, v]) ∧ Faults w' v b j eb es)) ∧ Below w.heap.size w w' := by
  obtain ⟨HC⟩ : Nonempty (Hid (Calls _ _ _ _ _)) := ⟨setWhere_any 67 (fun x y => x && !y) asks_Not rfl a b i j hRa hRb pa pb ca cb et eb es w hE hpa hpb hla hlb⟩
  clear hRa hRb hE hpa hpb hla hlb
  obtain ⟨g, hg⟩ : ∃ g, Hid (askB (fun x y => x && !y) a b = g) := ⟨_, show _ = _ from rfl⟩
  rw [show askB (fun x y => x && !y) a b = g from hg.out]
  go_enter Tryd.func42, Tryd.ntmps42
  go_wp2_with fail
  refine HC.out.mono ?_
  rw [show askB (fun x y => x && !y) a b = g from hg.out]
  rintro e w1 ⟨⟨hi, hj, L, v, rfl, hG⟩ | ⟨v, rfl, hG⟩ | ⟨hi, v, rfl, hG⟩, hb⟩
  · obtain ⟨HK⟩ : Nonempty (Hid (i = a.length ∧ j = b.length ∧ Holdn w1 v L g)) := ⟨⟨hi, hj, hG⟩⟩
    clear hi hj hG HC
    go_wp2
    exact bodyPost_ret (v := .tuple #[v, .nilIface]) (by simp [results, Tryd.results42, go_sem]) rfl ⟨.inl ⟨HK.out.1, HK.out.2.1, L, v, rfl, HK.out.2.2⟩, hb⟩
  · obtain ⟨HK⟩ : Nonempty (Hid (Faults w1 v a i eb es)) := ⟨hG⟩
    clear hG HC
    go_wp2
    exact bodyPost_ret (v := .tuple #[.slice none 0 0, v]) (by simp [results, Tryd.results42, go_sem]) rfl ⟨.inr (.inl ⟨v, rfl, HK.out⟩), hb⟩
  · obtain ⟨HK⟩ : Nonempty (Hid (i = a.length ∧ Faults w1 v b j eb es)) := ⟨⟨hi, hG⟩⟩
    clear hi hG HC
    go_wp2
    exact bodyPost_ret (v := .tuple #[.slice none 0 0, v]) (by simp [results, Tryd.results42, go_sem]) rfl ⟨.inr (.inr ⟨HK.out.1, v, rfl, HK.out.2⟩), hb⟩
end Go.Proofs.YthehpnhjfnenoaaDoor
