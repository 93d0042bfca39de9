/-
  The library's symMergeCmpFunc at routes where both parts hold more than one: what it makes of a row.
-/
import Derived.Test.YtkcacdlgmapjjaaMergeDown
namespace Go.Proofs.Ytkcacdlgmapjjaa
open Go.RowKit
open Go.Sort (SWO PermIn SortedIn swp swp_get swp_size swp_permIn permIn_refl permIn_trans permIn_mono permIn_all)

set_option linter.unusedVariables false in
set_option linter.unusedSimpArgs false in
set_option maxRecDepth 1000000 in
set_option maxHeartbeats 16000000 in
theorem mergeRest_k (k : Nat) (zE : ∀ w, (Go.sizeOf 31).run Try.prog w = .ok k w) {α : Type} [Inhabited α] (enc : α → List Value) (cf : α → α → Int) (g : Nat) (cb : Array Value) (blk off cap a m b : Nat) (d0 d : Array α) (w0 w : World)
    (eg : ∀ args w, (callFunc g args).run Try.prog w = .ok (.enter g args) w) (hcmp : CmpLays Try.prog g cb enc k cf blk off d0.size w0) (hO : SWO (ltOf cf)) (R : RowK enc k w0 blk off d0) (hs : d0.size = d.size) (S : SWK enc k w0 blk off d w)
    (ham : a + 1 < m) (hmb : m + 1 < b) (hb : b ≤ d.size) (hsz : d.size ≤ 1000000) (hsa : SortedIn (ltOf cf) a m d) (hsb : SortedIn (ltOf cf) m b d)
    (IH : ∀ (x y z : Nat) (dk : Array α) (wr : World), x < y → y < z → z ≤ d.size → z - x < b - a → dk.size = d.size → SWK enc k w0 blk off dk wr → SortedIn (ltOf cf) x y dk → SortedIn (ltOf cf) y z dk →
      Calls Try.prog 31 #[.slice (some ⟨blk, off, none⟩) d.size cap, .int .i64 x, .int .i64 y, .int .i64 z, .func (.func g) #[] cb] wr fun e w' => e = .returned (.tuple #[]) ∧ ∃ d', SWK enc k w0 blk off d' w' ∧ SortedIn (ltOf cf) x z d' ∧ PermIn x z dk d') :
    Calls Try.prog 31 #[.slice (some ⟨blk, off, none⟩) d.size cap, .int .i64 a, .int .i64 m, .int .i64 b, .func (.func g) #[] cb] w fun e w' => e = .returned (.tuple #[]) ∧ ∃ d', SWK enc k w0 blk off d' w' ∧ SortedIn (ltOf cf) a b d' ∧ PermIn a b d d' := by
  have mixed : Try.prog.follows .mixedOrders = true := by kernel_rfl
  obtain ⟨S0⟩ : Nonempty (Aside (SWK enc k w0 blk off d w)) := ⟨S⟩
  obtain ⟨HC⟩ : Nonempty (Aside (CmpLays Try.prog g cb enc k cf blk off d0.size w0)) := ⟨hcmp⟩
  obtain ⟨HS⟩ : Nonempty (Hid (SortedIn (ltOf cf) a m d ∧ SortedIn (ltOf cf) m b d)) := ⟨⟨hsa, hsb⟩⟩
  obtain ⟨HI⟩ : Nonempty (Hid (∀ (x y z : Nat) (dk : Array α) (wr : World), x < y → y < z → z ≤ d.size → z - x < b - a → dk.size = d.size → SWK enc k w0 blk off dk wr → SortedIn (ltOf cf) x y dk → SortedIn (ltOf cf) y z dk →
      Calls Try.prog 31 #[.slice (some ⟨blk, off, none⟩) d.size cap, .int .i64 x, .int .i64 y, .int .i64 z, .func (.func g) #[] cb] wr fun e w' => e = .returned (.tuple #[]) ∧ ∃ d', SWK enc k w0 blk off d' w' ∧ SortedIn (ltOf cf) x z d' ∧ PermIn x z dk d')) := ⟨IH⟩
  obtain ⟨HT⟩ : Nonempty (Hid (∀ (x y z : Nat) (wr : World), x < y → y < z → z ≤ d.size → SWK enc k w0 blk off d wr →
      Calls Try.prog 32 #[.slice (some ⟨blk, off, none⟩) d.size cap, .int .i64 x, .int .i64 y, .int .i64 z, .func (.func g) #[] cb] wr fun e w' => e = .returned (.tuple #[]) ∧ ∃ d', SWK enc k w0 blk off d' w' ∧ Rot d d' x y z ∧ PermIn x z d d')) := ⟨fun x y z wr h1 h2 h3 h4 => rotate_k k zE enc blk off cap x y z d0 d w0 wr _ R hs h4 h1 h2 h3 hsz⟩
  clear S hcmp hsa hsb IH
  have r0 : IntKind.i64.wrap ((m : Int) - (a : Int)) = (m : Int) - (a : Int) := by rw [IntKind.wrap_i64]; omega
  have r0' : ((m : Int) - (a : Int) == 1) = false := beq_eq_false_iff_ne.2 (by omega)
  have r1 : IntKind.i64.wrap ((b : Int) - (m : Int)) = (b : Int) - (m : Int) := by rw [IntKind.wrap_i64]; omega
  have r1' : ((b : Int) - (m : Int) == 1) = false := beq_eq_false_iff_ne.2 (by omega)
  go_enter Try.func31, Try.ntmps31
  go_upto_region 25 with fail
  clear r0 r0' r1 r1'
  obtain ⟨mid, hmid⟩ : ∃ mid : Nat, mid = (a + b) / 2 := ⟨_, rfl⟩
  have zm : ((a : Int) + (b : Int)) / 2 = (mid : Int) := by omega
  rw [zm]
  have g1 : a < mid := by omega
  have g2 : mid + 1 < b := by omega
  have g3 : 2 * mid ≤ a + b := by omega
  have g4 : a + b ≤ 2 * mid + 1 := by omega
  clear zm hmid
  have rn : IntKind.i64.wrap ((mid : Int) + (m : Int)) = (mid : Int) + (m : Int) := by rw [IntKind.wrap_i64]; omega
  go_upto_region 26 with fail
  obtain ⟨n, hn⟩ : ∃ n : Nat, n = mid + m := ⟨_, rfl⟩
  have zn : (mid : Int) + (m : Int) = (n : Int) := by omega
  rw [zn]
  have hn2 : n ≤ 2000000 := by omega
  clear rn zn
  go_upto_if 140 with fail
  obtain ⟨HN⟩ : Nonempty (Hid (n = mid + m)) := ⟨hn⟩
  obtain ⟨s0, r0, HF, HG⟩ : ∃ s0 r0 : Nat, Hid (a ≤ s0 ∧ s0 ≤ r0 ∧ r0 ≤ m ∧ r0 ≤ mid ∧ n ≤ b + s0 ∧ (s0 = a ∨ s0 + b = n) ∧ (r0 = mid ∨ r0 = m)) ∧ Hid (if mid < m then s0 + b = n ∧ r0 = mid else s0 = a ∧ r0 = m) := by
    by_cases hm : mid < m
    · exact ⟨n - b, mid, ⟨by omega, by omega, by omega, Nat.le_refl _, by omega, .inr (by omega), .inl rfl⟩, by show ite _ _ _; rw [if_pos hm]; exact ⟨by omega, rfl⟩⟩
    · exact ⟨a, m, ⟨Nat.le_refl _, by omega, Nat.le_refl _, by omega, by omega, .inl rfl, .inr rfl⟩, by show ite _ _ _; rw [if_neg hm]; exact ⟨rfl, rfl⟩⟩
  clear hn
  go_cut [20, 21] from 25 (fun s r wc => s = .int .i64 s0 ∧ r = .int .i64 r0 ∧ Aside (SWK enc k w0 blk off d wc))
  case first =>
    by_cases hm : mid < m
    · have hmz : (mid : Int) < (m : Int) := by omega
      have f := HG.out
      rw [if_pos hm] at f
      obtain ⟨f1, f2⟩ := f
      have rs : IntKind.i64.wrap ((n : Int) - (b : Int)) = (n : Int) - (b : Int) := by rw [IntKind.wrap_i64]; omega
      subst f2
      have F1 : Hid ((n : Int) - (b : Int) = (s0 : Int)) := by show _ = _; omega
      clear f1
      go_wp2_with fail
      go_meet
      case rel => exact ⟨by rw [F1.out], rfl, S0⟩
    · have hmz : ¬ (mid : Int) < (m : Int) := by omega
      have f := HG.out
      rw [if_neg hm] at f
      obtain ⟨f1, f2⟩ := f
      subst f1 f2
      go_wp2_with fail
      go_meet
      case rel => exact ⟨rfl, rfl, S0⟩
  case rest => as_aux_lemma =>
    clear S0
    obtain ⟨rfl, rfl, SC⟩ := hcut
    have q1 : 1 ≤ n := by have := HN.out; omega
    have rp : IntKind.i64.wrap ((n : Int) - 1) = (n : Int) - 1 := by rw [IntKind.wrap_i64]; omega
    go_upto_region 33 with fail
    obtain ⟨p, hp⟩ : ∃ p : Nat, n = p + 1 := ⟨n - 1, by omega⟩
    have zp : (n : Int) - 1 = (p : Int) := by omega
    rw [zp]
    obtain ⟨HP⟩ : Nonempty (Hid (n = p + 1)) := ⟨hp⟩
    have hp2 : p ≤ 2000000 := by omega
    clear hp q1 zp rp
    go_loopw [20, 21] (fun vi vj wr => ∃ (i j : Nat), vi = .int .i64 i ∧ vj = .int .i64 j ∧ s0 ≤ i ∧ i ≤ j ∧ j ≤ r0 ∧ Aside (SWK enc k w0 blk off d wr) ∧ Hid ((i = s0 ∨ ltOf cf d[n - i]! d[i - 1]! = false) ∧ (j = r0 ∨ ltOf cf d[n - j - 1]! d[j]! = true)))
      (fun vi vj _ => (intOf vj).toNat - (intOf vi).toNat)
    case atStart => exact ⟨s0, r0, rfl, rfl, Nat.le_refl _, HF.out.2.1, Nat.le_refl _, SC, .inl rfl, .inl rfl⟩
    case round =>
      clear SC
      obtain ⟨i, j, rfl, rfl, hmi, hij, hjb, SW, HB⟩ := hrel
      by_cases hlt : i < j
      · have hltz : (i : Int) < (j : Int) := by omega
        have q1 : i ≤ 1000000 := by have := HF.out.2.2.1; omega
        have q2 : j ≤ 1000000 := by have := HF.out.2.2.1; omega
        go_upto_region 35 with fail
        obtain ⟨h, hh⟩ : ∃ h : Nat, h = (i + j) / 2 := ⟨_, rfl⟩
        have zh : ((i : Int) + (j : Int)) / 2 = (h : Int) := by omega
        rw [zh]
        have h1 : i ≤ h := by omega
        have h2 : h < j := by omega
        obtain ⟨HH⟩ : Nonempty (Hid (i ≤ h ∧ h < j)) := ⟨⟨h1, h2⟩⟩
        obtain ⟨q, hq⟩ : ∃ q : Nat, p = q + h := ⟨p - h, by have := HF.out; have := HN.out; have := HP.out; omega⟩
        have hqb : q < d.size := by have := HF.out; have := HN.out; have := HP.out; omega
        have zq : (p : Int) - (h : Int) = (q : Int) := by omega
        have rq : IntKind.i64.wrap ((q : Int)) = (q : Int) := by rw [IntKind.wrap_i64]; omega
        have ec : ((q : Int)).toNat = q := by omega
        have pc : (0 : Int) ≤ (q : Int) := by omega
        have bc : (q : Int) < (d.size : Int) := by omega
        have ea : ((h : Int)).toNat = h := by omega
        have pa : (0 : Int) ≤ (h : Int) := by omega
        have ba : (h : Int) < (d.size : Int) := by have := HF.out; omega
        have ra : IntKind.i64.wrap ((h : Int)) = (h : Int) := by rw [IntKind.wrap_i64]; have := HF.out; omega
        obtain ⟨HQ⟩ : Nonempty (Hid (q = n - h - 1 ∧ q = n - (h + 1))) := ⟨(by have := HP.out; omega : q = n - h - 1 ∧ q = n - (h + 1))⟩
        clear hh zh h1 h2 hq
        obtain ⟨x, hx⟩ : ∃ x, Hid (x = d[q]!) := ⟨_, show _ = _ from rfl⟩
        obtain ⟨y, hy⟩ : ∃ x, Hid (x = d[h]!) := ⟨_, show _ = _ from rfl⟩
        have la := SW.out.ld R (by omega) Try.prog q (by omega)
        have lb := SW.out.ld R (by omega) Try.prog h (by omega)
        rw [← hx.out] at la
        rw [← hy.out] at lb
        have hc := SW.out.cmp HC.out (by omega) x y
        cases hv : ltOf cf x y with
        | true =>
          have hv' : cf x y < 0 := of_decide_eq_true hv
          have hd' : decide (cf x y < 0) = true := hv
          obtain ⟨HV⟩ : Nonempty (Hid (ltOf cf d[q]! d[h]! = true)) := ⟨by rw [← hx.out, ← hy.out]; exact hv⟩
          clear hv
          go_wp2_with fail
          go_quiet_grown (first | (go_at_fn g; refine Calls.grown_of (hc _ _)))
          obtain ⟨SV⟩ : Nonempty (Aside (SWK enc k w0 blk off d (Go.Sort.grow (wr.drewN nq) osq))) := ⟨SW.out.grown nq osq⟩
          clear la lb hc SW
          generalize Go.Sort.grow (wr.drewN nq) osq = wv at SV ⊢
          clear nq osq
          go_wp2_with fail
          go_roundw
          case rel => first | exact ⟨i, h, rfl, rfl, hmi, by have := HH.out; omega, by have := HH.out; omega, SV, HB.out.1, .inr (by rw [← HQ.out.1]; exact HV.out)⟩ | ((repeat apply Exists.intro); exact ⟨⟨i, h, rfl, rfl, hmi, by have := HH.out; omega, by have := HH.out; omega, SV, HB.out.1, .inr (by rw [← HQ.out.1]; exact HV.out)⟩, rfl⟩)
          case measure => have := HH.out; simp [intOf]; omega
        | false =>
          have hv' : ¬ cf x y < 0 := of_decide_eq_false hv
          have hd' : decide (cf x y < 0) = false := hv
          obtain ⟨HV⟩ : Nonempty (Hid (ltOf cf d[q]! d[h]! = false)) := ⟨by rw [← hx.out, ← hy.out]; exact hv⟩
          clear hv
          go_wp2_with fail
          go_quiet_grown (first | (go_at_fn g; refine Calls.grown_of (hc _ _)))
          obtain ⟨SV⟩ : Nonempty (Aside (SWK enc k w0 blk off d (Go.Sort.grow (wr.drewN nq) osq))) := ⟨SW.out.grown nq osq⟩
          clear la lb hc SW
          generalize Go.Sort.grow (wr.drewN nq) osq = wv at SV ⊢
          clear nq osq
          go_wp2_with fail
          go_roundw
          case rel => first | exact ⟨h + 1, j, by go_num, rfl, by have := HH.out; omega, by have := HH.out; omega, hjb, SV, .inr (by rw [Nat.add_sub_cancel, ← HQ.out.2]; exact HV.out), HB.out.2⟩ | ((repeat apply Exists.intro); exact ⟨⟨h + 1, j, by go_num, rfl, by have := HH.out; omega, by have := HH.out; omega, hjb, SV, .inr (by rw [Nat.add_sub_cancel, ← HQ.out.2]; exact HV.out), HB.out.2⟩, rfl⟩)
          case measure => have := HH.out; simp [intOf]; omega
      · have hltz : ¬ (i : Int) < (j : Int) := by omega
        obtain rfl : i = j := by omega
        clear HC
        obtain ⟨e, he⟩ : ∃ e : Nat, n = e + i := ⟨n - i, by have := HF.out; have := HN.out; omega⟩
        have k1 : a ≤ i := by have := HF.out; omega
        have k2 : i ≤ m := by have := HF.out; omega
        have k3 : i ≤ mid := by have := HF.out; omega
        have k4 : m ≤ e := by have := HN.out; omega
        have k5 : e ≤ b := by have := HF.out; omega
        have k6 : i + (e - m) = mid := by have := HN.out; omega
        obtain ⟨HR⟩ : Nonempty (Hid (∀ d1, Rot d d1 i m e → Split (ltOf cf) d1 a i mid e b)) := ⟨fun d1 h => by
          have f := HF.out
          have b1 := HB.out.1
          have b2 := HB.out.2
          rw [show n - i = e by omega] at b1 b2
          have := rot_split (a := a) (b := b) hO k1 k2 k4 k5 HS.out.1 HS.out.2 ?_ ?_ h
          · rwa [k6] at this
          · rcases b1 with b1 | b1
            · rcases f.2.2.2.2.2.1 with f1 | f1
              · exact .inl (by omega)
              · exact .inr (.inl (by omega))
            · exact .inr (.inr b1)
          · rcases b2 with b2 | b2
            · rcases f.2.2.2.2.2.2 with f1 | f1
              · exact .inr (.inl (by have := HN.out; omega))
              · exact .inl (by omega)
            · exact .inr (.inr b2)⟩
        have re : IntKind.i64.wrap ((n : Int) - (i : Int)) = (n : Int) - (i : Int) := by rw [IntKind.wrap_i64]; omega
        obtain ⟨HE0⟩ : Nonempty (Hid (n = e + i)) := ⟨he⟩
        clear HB HF HG HS HP he
        go_upto_region 39 with fail
        have he := HE0.out
        have ze : (n : Int) - (i : Int) = (e : Int) := by omega
        rw [ze]
        clear re ze he k6 HE0
        obtain ⟨t39, T39⟩ : ∃ t : Bool, Hid ((decide (i < m) && decide (m < e)) = t) := ⟨_, show _ = _ from rfl⟩
        go_cut [185] from 25 (fun s wc => s = .bool t39 ∧ Aside (SWK enc k w0 blk off d wc))
        case first =>
          by_cases c1 : i < m
          · have c1z : (i : Int) < (m : Int) := by omega
            by_cases c2 : m < e
            · have c2z : (m : Int) < (e : Int) := by omega
              go_wp2_with fail
              go_meet
              case rel => exact ⟨by rw [← T39.out, decide_eq_true c1, decide_eq_true c2]; rfl, SW⟩
            · have c2z : ¬ (m : Int) < (e : Int) := by omega
              go_wp2_with fail
              go_meet
              case rel => exact ⟨by rw [← T39.out, decide_eq_true c1, decide_eq_false c2]; rfl, SW⟩
          · have c1z : ¬ (i : Int) < (m : Int) := by omega
            go_wp2_with fail
            go_meet
            case rel => exact ⟨by rw [← T39.out, decide_eq_false c1]; rfl, SW⟩
        case rest => as_aux_lemma =>
          clear SW
          obtain ⟨rfl, SX⟩ := hcut
          go_upto_if 185 with fail
          go_cut [] from 25 (fun wd => ∃ d1 : Array α, Aside (SWK enc k w0 blk off d1 wd) ∧ Hid (Rot d d1 i m e ∧ PermIn a b d d1))
          case first =>
            cases t39 with
            | true =>
              have c := T39.out
              rw [Bool.and_eq_true, decide_eq_true_eq, decide_eq_true_eq] at c
              have hc := HT.out i m e wc c.1 c.2 (by omega) SX.out
              go_wp2_with (go_at_call 32; refine hc.mono ?_; rintro ee w1 ⟨rfl, d1, S1, R1, P1⟩)
              go_meet
              case rel => exact ⟨d1, S1, R1, permIn_mono _ _ _ _ _ _ k1 k5 hb P1⟩
            | false =>
              obtain ⟨HZ⟩ : Nonempty (Hid (Rot d d i m e)) := ⟨by
                have c := T39.out
                by_cases c1 : i < m
                · have c2 : ¬ m < e := fun c2 => by rw [decide_eq_true c1, decide_eq_true c2] at c; cases c
                  rw [show e = m by omega]; exact rot_right d i m
                · rw [show i = m by omega]; exact rot_left d m e⟩
              go_wp2_with fail
              go_meet
              case rel => exact ⟨d, SX, HZ.out, permIn_refl _ _ _⟩
          case rest => as_aux_lemma =>
            clear SX T39
            obtain ⟨d1, S1, H1⟩ := hcut
            have n1 : d1.size = d.size := H1.out.1.1
            obtain ⟨HX⟩ : Nonempty (Hid (Split (ltOf cf) d1 a i mid e b)) := ⟨HR.out d1 H1.out.1⟩
            clear HR HT
            go_upto_region 41 with fail
            obtain ⟨t41, T41⟩ : ∃ t : Bool, Hid ((decide (a < i) && decide (i < mid)) = t) := ⟨_, show _ = _ from rfl⟩
            go_cut [199] from 25 (fun s wc => s = .bool t41 ∧ Aside (SWK enc k w0 blk off d1 wc))
            case first =>
              by_cases c1 : a < i
              · have c1z : (a : Int) < (i : Int) := by omega
                by_cases c2 : i < mid
                · have c2z : (i : Int) < (mid : Int) := by omega
                  go_wp2_with fail
                  go_meet
                  case rel => exact ⟨by rw [← T41.out, decide_eq_true c1, decide_eq_true c2]; rfl, S1⟩
                · have c2z : ¬ (i : Int) < (mid : Int) := by omega
                  go_wp2_with fail
                  go_meet
                  case rel => exact ⟨by rw [← T41.out, decide_eq_true c1, decide_eq_false c2]; rfl, S1⟩
              · have c1z : ¬ (a : Int) < (i : Int) := by omega
                go_wp2_with fail
                go_meet
                case rel => exact ⟨by rw [← T41.out, decide_eq_false c1]; rfl, S1⟩
            case rest => as_aux_lemma =>
              clear S1
              obtain ⟨rfl, S1⟩ := hcut
              go_upto_if 199 with fail
              go_cut [] from 25 (fun wd => ∃ d2 : Array α, Aside (SWK enc k w0 blk off d2 wd) ∧ Hid (SortedIn (ltOf cf) a mid d2 ∧ PermIn a mid d1 d2))
              case first =>
                cases t41 with
                | true =>
                  have c := T41.out
                  rw [Bool.and_eq_true, decide_eq_true_eq, decide_eq_true_eq] at c
                  have hc := HI.out a i mid d1 _ c.1 c.2 (by omega) (by omega) n1 S1.out HX.out.one HX.out.two
                  go_wp2_with (go_at_call 31; refine hc.mono ?_; rintro ee w1 ⟨rfl, d2, S2, R2, P2⟩)
                  go_meet
                  case rel => exact ⟨d2, S2, R2, P2⟩
                | false =>
                  obtain ⟨HZ⟩ : Nonempty (Hid (SortedIn (ltOf cf) a mid d1)) := ⟨by
                    have c := T41.out
                    by_cases c1 : a < i
                    · have c2 : ¬ i < mid := fun c2 => by rw [decide_eq_true c1, decide_eq_true c2] at c; cases c
                      have := HX.out.one; rwa [show i = mid by omega] at this
                    · have := HX.out.two; rwa [show i = a by omega] at this⟩
                  go_wp2_with fail
                  go_meet
                  case rel => exact ⟨d1, S1, HZ.out, permIn_refl _ _ _⟩
              case rest => as_aux_lemma =>
                clear T41
                obtain ⟨d2, S2, H2⟩ := hcut
                have n2 : d2.size = d.size := by rw [H2.out.2.1]; exact n1
                obtain ⟨HE⟩ : Nonempty (Hid (∀ d3, SortedIn (ltOf cf) mid b d3 → PermIn mid b d2 d3 → SortedIn (ltOf cf) a b d3 ∧ PermIn a b d d3)) := ⟨fun d3 s3 p3 => by
                  have := split_merged (by omega) (by omega) (by omega) HX.out H2.out.2 H2.out.1 p3 s3
                  exact ⟨this.1, permIn_trans _ _ _ _ _ H1.out.2 this.2⟩⟩
                clear S1
                by_cases c1 : mid < e
                · have c1z : (mid : Int) < (e : Int) := by omega
                  by_cases c2 : e < b
                  · have c2z : (e : Int) < (b : Int) := by omega
                    have hc := HI.out mid e b d2 _ c1 c2 (by omega) (by omega) n2 S2.out (sortedIn_behind H2.out.2 (Nat.le_refl _) HX.out.three) (sortedIn_behind H2.out.2 (by omega) HX.out.four)
                    go_wp2_with (go_at_call 31; refine hc.mono ?_; rintro ee w1 ⟨rfl, d3, S3, R3, P3⟩)
                    go_end0
                    exact ⟨rfl, d3, S3, HE.out d3 R3 P3⟩
                  · have c2z : ¬ (e : Int) < (b : Int) := by omega
                    go_wp2_with fail
                    go_end0
                    refine ⟨rfl, d2, S2.out, HE.out d2 ?_ (permIn_refl _ _ _)⟩
                    have := sortedIn_behind H2.out.2 (Nat.le_refl _) HX.out.three
                    rwa [show e = b by omega] at this
                · have c1z : ¬ (mid : Int) < (e : Int) := by omega
                  go_wp2_with fail
                  go_end0
                  refine ⟨rfl, d2, S2.out, HE.out d2 ?_ (permIn_refl _ _ _)⟩
                  intro x y h1 h2 h3
                  exact sortedIn_behind H2.out.2 (show mid ≤ mid from Nat.le_refl _) (sortedIn_join (a := mid) (c := e) HX.out.three HX.out.four fun x y _ h _ _ => by omega) x y h1 h2 h3
end Go.Proofs.Ytkcacdlgmapjjaa
