/-
  The library's swapRangeCmpFunc at routes: what it makes of a row.
-/
import Derived.Test.YtkcacdlgmapjjaaBase0
import Derived.Test.YtkcacdlgmapjjaaSymMath
import Derived.Shelf.SlSortCmp.KitK
namespace Go.Proofs.Ytkcacdlgmapjjaa
open Go.RowKit
open Go.Sort (SWO PermIn SortedIn swp swp_get swp_size swp_permIn permIn_refl permIn_trans permIn_mono permIn_all)

set_option linter.unusedVariables false in
set_option linter.unusedSimpArgs false in
set_option maxRecDepth 1000000 in
set_option maxHeartbeats 16000000 in
theorem swapRange_k (k : Nat) (zE : ∀ w, (Go.sizeOf 31).run Try.prog w = .ok k w) {α : Type} [Inhabited α] (enc : α → List Value) (blk off cap a b n : Nat) (d0 d : Array α) (w0 w : World) (fv : Value) (R : RowK enc k w0 blk off d0) (hs : d0.size = d.size) (S : SWK enc k w0 blk off d w)
    (hab : a + n ≤ b) (hb : b + n ≤ d.size) (hsz : d.size ≤ 1000000) :
    Calls Try.prog 33 #[.slice (some ⟨blk, off, none⟩) d.size cap, .int .i64 a, .int .i64 b, .int .i64 n, fv] w fun e w' => e = .returned (.tuple #[]) ∧ ∃ d', SWK enc k w0 blk off d' w' ∧ SwR d d' a b n ∧ PermIn a (b + n) d d' := by
  have mixed : Try.prog.follows .mixedOrders = true := by kernel_rfl
  obtain ⟨S0⟩ : Nonempty (Aside (SWK enc k w0 blk off d w)) := ⟨S⟩
  clear S
  go_enter Try.func33, Try.ntmps33
  go_wp2_with fail
  go_loopw [10] (fun vi wr => ∃ (t : Nat) (dk : Array α), vi = .int .i64 t ∧ t ≤ n ∧ dk.size = d.size ∧ Aside (SWK enc k w0 blk off dk wr) ∧ Hid (SwR d dk a b t ∧ PermIn a (b + n) d dk))
    (fun vi _ => n - (intOf vi).toNat)
  case atStart => exact ⟨0, d, rfl, Nat.zero_le _, rfl, S0, swR_none d a b, permIn_refl _ _ _⟩
  case round =>
    clear S0
    obtain ⟨t, dk, rfl, ht, hds, SW, HR⟩ := hrel
    by_cases hlt : t < n
    · have hltz : (t : Int) < (n : Int) := by omega
      have ep : ((a : Int) + (t : Int)).toNat = a + t := by omega
      have pp : (0 : Int) ≤ (a : Int) + (t : Int) := by omega
      have bp : (a : Int) + (t : Int) < (d.size : Int) := by omega
      have rp : IntKind.i64.wrap ((a : Int) + (t : Int)) = (a : Int) + (t : Int) := by rw [IntKind.wrap_i64]; omega
      have eq' : ((b : Int) + (t : Int)).toNat = b + t := by omega
      have pq : (0 : Int) ≤ (b : Int) + (t : Int) := by omega
      have bq : (b : Int) + (t : Int) < (d.size : Int) := by omega
      have rq : IntKind.i64.wrap ((b : Int) + (t : Int)) = (b : Int) + (t : Int) := by rw [IntKind.wrap_i64]; omega
      have S1 : Aside (SWK enc k w0 blk off (swp dk (a + t) (b + t)) ((wr.drew.setCells blk (off + (a + t) * k) (enc dk[b + t]!)).setCells blk (off + (b + t) * k) (enc dk[a + t]!))) := SW.out.swapped R (a + t) (b + t) (by omega) (by omega)
      have la := SW.out.ld1 R (by omega) Try.prog (a + t) (by omega)
      have lb := SW.out.ld1 R (by omega) Try.prog (b + t) (by omega)
      have sa := SW.out.st1 R (by omega) Try.prog (a + t) (by omega) dk[b + t]!
      have sb := SW.out.st2 R (by omega) Try.prog (a + t) (b + t) (by omega) (by omega) dk[b + t]! dk[a + t]!
      have na : (enc dk[a + t]!).length = k := R.hk _
      have nb : (enc dk[b + t]!).length = k := R.hk _
      generalize enc dk[a + t]! = cI at S1 la sb na
      generalize enc dk[b + t]! = cJ at S1 lb sa sb nb
      have HN : Hid (SwR d (swp dk (a + t) (b + t)) a b (t + 1) ∧ PermIn a (b + n) d (swp dk (a + t) (b + t))) := by
        exact ⟨swR_step hab hb hlt HR.out.1, permIn_trans _ _ _ _ _ HR.out.2 (swp_permIn _ _ _ _ _ (by omega) (by omega) (by omega) (by omega) (by omega))⟩
      clear SW HR
      go_wp2_with fail
      go_big_region_o
      clear la lb sa sb
      generalize (wr.drew.setCells blk (off + (a + t) * k) cJ).setCells blk (off + (b + t) * k) cI = w1 at S1 ⊢
      go_wp2_with fail
      go_roundw
      case rel => exact ⟨t + 1, swp dk (a + t) (b + t), by go_num, by omega, by rw [swp_size]; exact hds, S1, HN⟩
      case measure => simp [intOf]; omega
    · have hltz : ¬ (t : Int) < (n : Int) := by omega
      obtain rfl : t = n := by omega
      go_wp2_with fail
      go_end0
      exact ⟨rfl, dk, SW.out, HR.out.1, HR.out.2⟩
end Go.Proofs.Ytkcacdlgmapjjaa
