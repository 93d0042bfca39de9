/-
  The library's symMergeCmpFunc at routes where one of the two parts holds a single one: what it makes of a row.
-/
import Derived.Test.YtkcacdlgmapjjaaRotate
import Derived.Deep.Cut
namespace Go.Proofs.Ytkcacdlgmapjjaa
open Go.RowKit
open Go.Sort (SWO PermIn SortedIn swp swp_get swp_size swp_permIn permIn_refl permIn_trans permIn_mono permIn_all)

set_option linter.unusedVariables false in
set_option linter.unusedSimpArgs false in
set_option maxRecDepth 1000000 in
set_option maxHeartbeats 16000000 in
theorem mergeUp_k (k : Nat) (zE : ∀ w, (Go.sizeOf 31).run Try.prog w = .ok k w) {α : Type} [Inhabited α] (enc : α → List Value) (cf : α → α → Int) (g : Nat) (cb : Array Value) (blk off cap a b : Nat) (d0 d : Array α) (w0 w : World)
    (eg : ∀ args w, (callFunc g args).run Try.prog w = .ok (.enter g args) w) (hcmp : CmpLays Try.prog g cb enc k cf blk off d0.size w0) (hO : SWO (ltOf cf)) (R : RowK enc k w0 blk off d0) (hs : d0.size = d.size) (S : SWK enc k w0 blk off d w)
    (hab : a + 1 < b) (hb : b ≤ d.size) (hsz : d.size ≤ 1000000) (hsort : SortedIn (ltOf cf) (a + 1) b d) :
    Calls Try.prog 31 #[.slice (some ⟨blk, off, none⟩) d.size cap, .int .i64 a, .int .i64 (a + 1 : Nat), .int .i64 b, .func (.func g) #[] cb] w fun e w' => e = .returned (.tuple #[]) ∧ ∃ d', SWK enc k w0 blk off d' w' ∧ SortedIn (ltOf cf) a b d' ∧ PermIn a b d d' := by
  have mixed : Try.prog.follows .mixedOrders = true := by kernel_rfl
  obtain ⟨S0⟩ : Nonempty (Aside (SWK enc k w0 blk off d w)) := ⟨S⟩
  obtain ⟨HC⟩ : Nonempty (Aside (CmpLays Try.prog g cb enc k cf blk off d0.size w0)) := ⟨hcmp⟩
  obtain ⟨HS⟩ : Nonempty (Hid (SortedIn (ltOf cf) (a + 1) b d)) := ⟨hsort⟩
  clear S hcmp hsort
  have r1 : IntKind.i64.wrap (((a + 1 : Nat) : Int) - (a : Int)) = 1 := by rw [IntKind.wrap_i64]; omega
  obtain ⟨m, hm⟩ : ∃ m : Nat, m = a + 1 := ⟨_, rfl⟩
  rw [← hm] at r1 HS ⊢
  have r2 : (m : Int) - (a : Int) = 1 := by omega
  have hmb : m ≤ b := by omega
  obtain ⟨HM⟩ : Nonempty (Hid (m = a + 1)) := ⟨hm⟩
  clear hm
  go_enter Try.func31, Try.ntmps31
  go_wp2_with fail
  clear r1 r2
  go_loopw [10, 11] (fun vi vj wr => ∃ (i j : Nat), vi = .int .i64 i ∧ vj = .int .i64 j ∧ m ≤ i ∧ i ≤ j ∧ j ≤ b ∧ Aside (SWK enc k w0 blk off d wr) ∧ Hid ((i = m ∨ ltOf cf d[i - 1]! d[a]! = true) ∧ (j = b ∨ ltOf cf d[j]! d[a]! = false)))
    (fun vi vj _ => (intOf vj).toNat - (intOf vi).toNat)
  case atStart => exact ⟨m, b, rfl, rfl, by omega, by omega, Nat.le_refl _, S0, .inl rfl, .inl rfl⟩
  case round =>
    clear S0
    obtain ⟨i, j, rfl, rfl, hmi, hij, hjb, SW, HB⟩ := hrel
    by_cases hlt : i < j
    · have hltz : (i : Int) < (j : Int) := by omega
      go_upto_region 5 with fail
      obtain ⟨h, hh⟩ : ∃ h : Nat, h = (i + j) / 2 := ⟨_, rfl⟩
      have zh : ((i : Int) + (j : Int)) / 2 = (h : Int) := by omega
      rw [zh]
      have ea : ((h : Int)).toNat = h := by omega
      have pa : (0 : Int) ≤ (h : Int) := by omega
      have ba : (h : Int) < (d.size : Int) := by omega
      have ra : IntKind.i64.wrap ((h : Int)) = (h : Int) := by rw [IntKind.wrap_i64]; omega
      have ec : ((a : Int)).toNat = a := by omega
      have pc : (0 : Int) ≤ (a : Int) := by omega
      have bc : (a : Int) < (d.size : Int) := by omega
      have rc : IntKind.i64.wrap ((a : Int)) = (a : Int) := by rw [IntKind.wrap_i64]; omega
      have h1 : i ≤ h := by omega
      have h2 : h < j := by omega
      obtain ⟨HH⟩ : Nonempty (Hid (i ≤ h ∧ h < j)) := ⟨⟨h1, h2⟩⟩
      clear hh zh h1 h2
      obtain ⟨x, hx⟩ : ∃ x, Hid (x = d[h]!) := ⟨_, show _ = _ from rfl⟩
      obtain ⟨y, hy⟩ : ∃ x, Hid (x = d[a]!) := ⟨_, show _ = _ from rfl⟩
      have la := SW.out.ld R (by omega) Try.prog h (by omega)
      have lb := SW.out.ld R (by omega) Try.prog a (by omega)
      rw [← hx.out] at la
      rw [← hy.out] at lb
      have hc := SW.out.cmp HC.out (by omega) x y
      cases hv : ltOf cf x y with
      | true =>
        have hv' : cf x y < 0 := of_decide_eq_true hv
        have hd' : decide (cf x y < 0) = true := hv
        obtain ⟨HV⟩ : Nonempty (Hid (ltOf cf d[h]! d[a]! = true)) := ⟨by rw [← hx.out, ← hy.out]; exact hv⟩
        clear hv
        go_wp2_with fail
        go_quiet_grown (first | (go_at_fn g; refine Calls.grown_of (hc _ _)))
        obtain ⟨SV⟩ : Nonempty (Aside (SWK enc k w0 blk off d (Go.Sort.grow (wr.drewN nq) osq))) := ⟨SW.out.grown nq osq⟩
        clear la lb hc SW
        generalize Go.Sort.grow (wr.drewN nq) osq = wv at SV ⊢
        clear nq osq
        go_wp2_with fail
        go_roundw
        case rel => first | exact ⟨h + 1, j, by go_num, rfl, by have := HH.out; omega, by have := HH.out; omega, hjb, SV, .inr (by rw [Nat.add_sub_cancel]; exact HV.out), HB.out.2⟩ | ((repeat apply Exists.intro); exact ⟨⟨h + 1, j, by go_num, rfl, by have := HH.out; omega, by have := HH.out; omega, hjb, SV, .inr (by rw [Nat.add_sub_cancel]; exact HV.out), HB.out.2⟩, rfl⟩)
        case measure => have := HH.out; simp [intOf]; omega
      | false =>
        have hv' : ¬ cf x y < 0 := of_decide_eq_false hv
        have hd' : decide (cf x y < 0) = false := hv
        obtain ⟨HV⟩ : Nonempty (Hid (ltOf cf d[h]! d[a]! = false)) := ⟨by rw [← hx.out, ← hy.out]; exact hv⟩
        clear hv
        go_wp2_with fail
        go_quiet_grown (first | (go_at_fn g; refine Calls.grown_of (hc _ _)))
        obtain ⟨SV⟩ : Nonempty (Aside (SWK enc k w0 blk off d (Go.Sort.grow (wr.drewN nq) osq))) := ⟨SW.out.grown nq osq⟩
        clear la lb hc SW
        generalize Go.Sort.grow (wr.drewN nq) osq = wv at SV ⊢
        clear nq osq
        go_wp2_with fail
        go_roundw
        case rel => first | exact ⟨i, h, rfl, rfl, hmi, by have := HH.out; omega, by have := HH.out; omega, SV, HB.out.1, .inr HV.out⟩ | ((repeat apply Exists.intro); exact ⟨⟨i, h, rfl, rfl, hmi, by have := HH.out; omega, by have := HH.out; omega, SV, HB.out.1, .inr HV.out⟩, rfl⟩)
        case measure => have := HH.out; simp [intOf]; omega
    · have hltz : ¬ (i : Int) < (j : Int) := by omega
      obtain rfl : i = j := by omega
      clear HC
      have hm := HM.out
      have hai : a + 1 ≤ i := by omega
      have r3 : IntKind.i64.wrap ((i : Int) - 1) = (i : Int) - 1 := by rw [IntKind.wrap_i64]; omega
      clear hm
      go_wp2_with fail
      go_loopw [13] (fun vk wr => ∃ (t : Nat) (dk : Array α), vk = .int .i64 t ∧ a ≤ t ∧ t + 1 ≤ i ∧ dk.size = d.size ∧ Aside (SWK enc k w0 blk off dk wr) ∧ Hid (Rot d dk a (a + 1) (t + 1) ∧ PermIn a b d dk))
        (fun vk _ => i - (intOf vk).toNat)
      case atStart => exact ⟨a, d, rfl, Nat.le_refl _, by omega, rfl, SW, rot_right d a (a + 1), permIn_refl _ _ _⟩
      case round =>
        clear SW
        obtain ⟨t, dk, rfl, hat, hti, hds, SU, HR⟩ := hrel
        by_cases hlt2 : t + 1 < i
        · have hlt2z : (t : Int) < (i : Int) - 1 := by omega
          have ea : ((t : Int)).toNat = t := by omega
          have pa : (0 : Int) ≤ (t : Int) := by omega
          have ba : (t : Int) < (d.size : Int) := by omega
          have ra : IntKind.i64.wrap ((t : Int)) = (t : Int) := by rw [IntKind.wrap_i64]; omega
          have ec : ((t : Int) + 1).toNat = t + 1 := by omega
          have pc : (0 : Int) ≤ (t : Int) + 1 := by omega
          have bc : (t : Int) + 1 < (d.size : Int) := by omega
          have rc : IntKind.i64.wrap ((t : Int) + 1) = (t : Int) + 1 := by rw [IntKind.wrap_i64]; omega
          obtain ⟨S1⟩ : Nonempty (Aside (SWK enc k w0 blk off (swp dk t (t + 1)) ((wr.drew.setCells blk (off + t * k) (enc dk[t + 1]!)).setCells blk (off + (t + 1) * k) (enc dk[t]!)))) := ⟨SU.out.swapped R t (t + 1) (by omega) (by omega)⟩
          have la := SU.out.ld1 R (by omega) Try.prog t (by omega)
          have lb := SU.out.ld1 R (by omega) Try.prog (t + 1) (by omega)
          have sa := SU.out.st1 R (by omega) Try.prog t (by omega) dk[t + 1]!
          have sb := SU.out.st2 R (by omega) Try.prog t (t + 1) (by omega) (by omega) dk[t + 1]! dk[t]!
          have na : (enc dk[t]!).length = k := R.hk _
          have nb : (enc dk[t + 1]!).length = k := R.hk _
          generalize enc dk[t]! = cI at S1 la sb na
          generalize enc dk[t + 1]! = cJ at S1 lb sa sb nb
          obtain ⟨HN⟩ : Nonempty (Hid (Rot d (swp dk t (t + 1)) a (a + 1) (t + 2) ∧ PermIn a b d (swp dk t (t + 1)))) := ⟨⟨rot_up hat (by omega) HR.out.1, permIn_trans _ _ _ _ _ HR.out.2 (swp_permIn _ _ _ _ _ (by omega) (by omega) (by omega) (by omega) (by omega))⟩⟩
          clear SU HR
          go_wp2_with fail
          go_big_region_o
          clear la lb sa sb
          generalize (wr.drew.setCells blk (off + t * k) cJ).setCells blk (off + (t + 1) * k) cI = w1 at S1 ⊢
          go_wp2_with fail
          go_roundw
          case rel => exact ⟨t + 1, swp dk t (t + 1), by go_num, by omega, by omega, by rw [swp_size]; exact hds, S1, HN⟩
          case measure => simp [intOf]; omega
        · have hlt2z : ¬ (t : Int) < (i : Int) - 1 := by omega
          obtain rfl : i = t + 1 := by omega
          go_wp2_with fail
          (try simp only [Exit.inBlock, Exit.then])
          refine bodyPost_ret (results_none rfl _ _ _) rfl ?_
          refine ⟨rfl, dk, SU.out, one_up hO (by omega) hjb (by rw [← HM.out]; exact HS.out) (by rw [← HM.out]; exact HB.out.1) HB.out.2 HR.out.1, HR.out.2⟩
end Go.Proofs.Ytkcacdlgmapjjaa
