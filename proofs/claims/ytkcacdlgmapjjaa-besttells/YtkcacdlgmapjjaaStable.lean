/-
  The library's symMergeCmpFunc, insertionSortCmpFunc, stableCmpFunc and SortStableFunc at at most 39 routes: the row is in order behind them, and holds what it held.
-/
import Derived.Test.YtkcacdlgmapjjaaMergeRest
import Derived.Test.YtkcacdlgmapjjaaShelf
namespace Go.Proofs.Ytkcacdlgmapjjaa
open Go.RowKit
open Go.Sort (SWO PermIn SortedIn swp swp_get swp_size swp_permIn permIn_refl permIn_trans permIn_mono permIn_all insertionSort_holds)

theorem symMerge_k (k : Nat) (zE : ∀ w, (Go.sizeOf 31).run Try.prog w = .ok k w) {α : Type} [Inhabited α] (enc : α → List Value) (cf : α → α → Int) (g : Nat) (cb : Array Value) (blk off cap : Nat) (d0 : Array α) (w0 : World)
    (eg : ∀ args w, (callFunc g args).run Try.prog w = .ok (.enter g args) w) (hcmp : CmpLays Try.prog g cb enc k cf blk off d0.size w0) (hO : SWO (ltOf cf)) (R : RowK enc k w0 blk off d0) (hsz : d0.size ≤ 1000000) :
    ∀ (N a m b : Nat) (d : Array α) (w : World), b - a ≤ N → d.size = d0.size → SWK enc k w0 blk off d w → a < m → m < b → b ≤ d.size → SortedIn (ltOf cf) a m d → SortedIn (ltOf cf) m b d →
    Calls Try.prog 31 #[.slice (some ⟨blk, off, none⟩) d.size cap, .int .i64 a, .int .i64 m, .int .i64 b, .func (.func g) #[] cb] w fun e w' => e = .returned (.tuple #[]) ∧ ∃ d', SWK enc k w0 blk off d' w' ∧ SortedIn (ltOf cf) a b d' ∧ PermIn a b d d' := by
  intro N
  induction N with
  | zero => intro a m b d w hN hs S h1 h2; omega
  | succ N ih =>
    intro a m b d w hN hs S h1 h2 h3 g1 g2
    by_cases hm : m = a + 1
    · subst hm
      exact mergeUp_k k zE enc cf g cb blk off cap a b d0 d w0 w eg hcmp hO R hs.symm S h2 h3 (by omega) g2
    · by_cases hb : b = m + 1
      · subst hb
        exact mergeDown_k k zE enc cf g cb blk off cap a m d0 d w0 w eg hcmp hO R hs.symm S (by omega) (by omega) (by omega) g1
      · exact mergeRest_k k zE enc cf g cb blk off cap a m b d0 d w0 w eg hcmp hO R hs.symm S (by omega) (by omega) h3 (by omega) g1 g2 fun x y z dk wr q1 q2 q3 q4 q5 q6 q7 q8 => by
          have := ih x y z dk wr (by omega) (by omega) q6 q1 q2 (by omega) q7 q8
          rwa [q5] at this
theorem insertion_k (k : Nat) (aE : ∀ w, (isAgg 31).run Try.prog w = .ok true w) (zE : ∀ w, (Go.sizeOf 31).run Try.prog w = .ok k w) {α : Type} [Inhabited α] (enc : α → List Value) (cf : α → α → Int) (g : Nat) (cb : Array Value) (blk off cap a b : Nat) (d0 d : Array α) (w0 w : World)
    (eg : ∀ args w, (callFunc g args).run Try.prog w = .ok (.enter g args) w) (hcmp : CmpLays Try.prog g cb enc k cf blk off d0.size w0) (hO : SWO (ltOf cf)) (R : RowK enc k w0 blk off d0) (hs : d0.size = d.size) (S : SWK enc k w0 blk off d w) (hab : a ≤ b) (hb : b ≤ d.size) (hsz : d.size ≤ 1000000) :
    Calls Try.prog 30 #[.slice (some ⟨blk, off, none⟩) d.size cap, .int .i64 a, .int .i64 b, .func (.func g) #[] cb] w fun e w' => e = .returned (.tuple #[]) ∧ ∃ d', SWK enc k w0 blk off d' w' ∧ SortedIn (ltOf cf) a b d' ∧ PermIn a b d d' := by
  have hI := insertionSort_holds hO d a b hab hb
  have hC : CmpLays Try.prog g cb enc k cf blk off d.size w := fun m os dk hdk x y => by
    obtain ⟨n0, os0, rfl⟩ := S
    rw [sortWorldK_on enc k w0 blk off n0 m d dk os0 os R.hblk hdk]
    exact hcmp _ _ dk (by omega) x y
  have hcon := AnyQ.insertionSortCmpFunc Try.insRoute k aE zE enc R.hk R.h1 cf g cb blk off cap a b d w eg hC (S.holds R.hblk R.hH hs.symm) (S.lt R.hblk) hab hb (by omega)
  change Calls Try.prog 30 _ _ _ at hcon
  refine hcon.mono ?_
  rintro e w' ⟨rfl, n, os, rfl⟩
  exact ⟨rfl, _, S.on R.hblk n _ os hI.1.1, hI.2, hI.1⟩

set_option linter.unusedVariables false in
set_option linter.unusedSimpArgs false in
set_option maxRecDepth 1000000 in
set_option maxHeartbeats 16000000 in
theorem stable_k (k : Nat) (aE : ∀ w, (isAgg 31).run Try.prog w = .ok true w) (zE : ∀ w, (Go.sizeOf 31).run Try.prog w = .ok k w) {α : Type} [Inhabited α] (enc : α → List Value) (cf : α → α → Int) (g : Nat) (cb : Array Value) (blk off cap : Nat) (d0 : Array α) (w0 : World)
    (eg : ∀ args w, (callFunc g args).run Try.prog w = .ok (.enter g args) w) (hcmp : CmpLays Try.prog g cb enc k cf blk off d0.size w0) (hO : SWO (ltOf cf)) (R : RowK enc k w0 blk off d0) (hsz : d0.size ≤ 39) :
    Calls Try.prog 19 #[.slice (some ⟨blk, off, none⟩) d0.size cap, .func (.func g) #[] cb] w0 fun e w' => e = .returned (.tuple #[]) ∧ ∃ d', SWK enc k w0 blk off d' w' ∧ SortedIn (ltOf cf) 0 d0.size d' ∧ PermIn 0 d0.size d0 d' := by
  obtain ⟨n, hn⟩ : ∃ n, n = d0.size := ⟨_, rfl⟩
  obtain ⟨S0⟩ : Nonempty (Aside (SWK enc k w0 blk off d0 w0)) := ⟨SWK.start R.hH⟩
  obtain ⟨HI⟩ : Nonempty (Hid (∀ (a b : Nat) (d : Array α) (w : World), d.size = n → SWK enc k w0 blk off d w → a ≤ b → b ≤ n →
      Calls Try.prog 30 #[.slice (some ⟨blk, off, none⟩) n cap, .int .i64 a, .int .i64 b, .func (.func g) #[] cb] w fun e w' => e = .returned (.tuple #[]) ∧ ∃ d', SWK enc k w0 blk off d' w' ∧ SortedIn (ltOf cf) a b d' ∧ PermIn a b d d')) := ⟨fun a b d w h1 h2 h3 h4 => by
    have := insertion_k k aE zE enc cf g cb blk off cap a b d0 d w0 w eg hcmp hO R (by omega) h2 h3 (by omega) (by omega)
    rwa [h1] at this⟩
  obtain ⟨HM⟩ : Nonempty (Hid (∀ (d : Array α) (w : World), d.size = n → SWK enc k w0 blk off d w → 20 < n → SortedIn (ltOf cf) 0 20 d → SortedIn (ltOf cf) 20 n d →
      Calls Try.prog 31 #[.slice (some ⟨blk, off, none⟩) n cap, .int .i64 0, .int .i64 20, .int .i64 n, .func (.func g) #[] cb] w fun e w' => e = .returned (.tuple #[]) ∧ ∃ d', SWK enc k w0 blk off d' w' ∧ SortedIn (ltOf cf) 0 n d' ∧ PermIn 0 n d d')) := ⟨fun d w h1 h2 h3 h4 h5 => by
    have := symMerge_k k zE enc cf g cb blk off cap d0 w0 eg hcmp hO R (by omega) n 0 20 n d w (by omega) (by omega) h2 (by omega) h3 (by omega) h4 h5
    rwa [h1] at this⟩
  rw [← hn] at hsz ⊢
  obtain ⟨HN⟩ : Nonempty (Hid (n = d0.size)) := ⟨hn⟩
  clear R hcmp hn zE aE
  have CS : Calls Try.prog 27 #[.slice (some ⟨blk, off, none⟩) n cap, .int .i64 n, .func (.func g) #[] cb] w0 fun e w' => e = .returned (.tuple #[]) ∧ ∃ d', SWK enc k w0 blk off d' w' ∧ SortedIn (ltOf cf) 0 n d' ∧ PermIn 0 n d0 d' := by
    by_cases h20 : n < 20
    · have h20z : (n : Int) < 20 := by omega
      have z1 : decide ((20 : Int) ≤ (n : Int)) = false := decide_eq_false (by omega)
      have z2 : decide ((20 : Int) < (n : Int)) = false := decide_eq_false (by omega)
      have hc := HI.out 0 n d0 w0 HN.out.symm S0.out (Nat.zero_le _) (Nat.le_refl _)
      clear h20
      go_enter Try.func27, Try.ntmps27
      go_wp2_with fail
      go_loopw [7, 8] (fun va vb wr => va = .int .i64 0 ∧ vb = .int .i64 20 ∧ wr = w0) (fun _ _ _ => 0)
      case atStart => exact ⟨rfl, rfl, rfl⟩
      case round =>
        obtain ⟨rfl, rfl, rfl⟩ := hrel
        go_wp2_with (go_at_call 30; refine hc.mono ?_; rintro ee w1 ⟨rfl, d1, S1, R1, P1⟩)
        go_loopw [6, 7, 8] (fun vs va vb wr => vs = .int .i64 20 ∧ wr = w1) (fun _ _ _ _ => 0)
        case atStart => exact ⟨rfl, rfl⟩
        case round =>
          obtain ⟨rfl, rfl⟩ := hrel
          go_wp2_with fail
          go_end0
          exact ⟨rfl, d1, S1, R1, P1⟩
    · have z0 : (20 : Int) ≤ (n : Int) := by omega
      have z1 : ¬ (40 : Int) ≤ (n : Int) := by omega
      have q0 : 20 ≤ n := by omega
      clear h20
      have hc := HI.out 0 20 d0 w0 HN.out.symm S0.out (Nat.zero_le _) q0
      obtain ⟨HC⟩ : Nonempty (Hid (∀ (d : Array α) (w : World), d.size = n → SWK enc k w0 blk off d w →
        Calls Try.prog 30 #[.slice (some ⟨blk, off, none⟩) n cap, .int .i64 20, .int .i64 n, .func (.func g) #[] cb] w fun e w' => e = .returned (.tuple #[]) ∧ ∃ d', SWK enc k w0 blk off d' w' ∧ SortedIn (ltOf cf) 20 n d' ∧ PermIn 20 n d d')) := ⟨fun d w h1 h2 => HI.out 20 n d w h1 h2 q0 (Nat.le_refl _)⟩
      clear HI
      go_enter Try.func27, Try.ntmps27
      go_wp2_with fail
      go_loopw [7, 8] (fun va vb wr => (va = .int .i64 0 ∧ vb = .int .i64 20 ∧ wr = w0) ∨ (va = .int .i64 20 ∧ vb = .int .i64 40 ∧ ∃ d1 : Array α, Aside (SWK enc k w0 blk off d1 wr) ∧ Hid (SortedIn (ltOf cf) 0 20 d1 ∧ PermIn 0 20 d0 d1))) (fun _ vb _ => 40 - (intOf vb).toNat)
      case atStart => exact .inl ⟨rfl, rfl, rfl⟩
      case round =>
        rcases hrel with ⟨rfl, rfl, rfl⟩ | ⟨rfl, rfl, d1, S1, H1⟩
        · go_wp2_with (go_at_call 30; refine hc.mono ?_; rintro ee w1 ⟨rfl, d1, S1, R1, P1⟩)
          go_roundw
          case rel => exact .inr ⟨rfl, rfl, d1, S1, R1, P1⟩
          case measure => simp [intOf]
        · have n1 : d1.size = n := by rw [H1.out.2.1]; exact HN.out.symm
          have hc2 := HC.out d1 wr n1 S1.out
          clear hc HC
          go_wp2_with (go_at_call 30; refine hc2.mono ?_; rintro ee w2 ⟨rfl, d2, S2, R2, P2⟩)
          obtain ⟨H2⟩ : Nonempty (Hid (SortedIn (ltOf cf) 0 20 d2 ∧ SortedIn (ltOf cf) 20 n d2 ∧ PermIn 0 n d0 d2)) := ⟨⟨fun i j h1 h2 h3 => by
            rw [P2.2.1 i (.inl (by omega)), P2.2.1 j (.inl h3)]
            exact H1.out.1 i j h1 h2 h3, R2, permIn_trans _ _ _ _ _ (permIn_mono _ _ _ _ _ _ (Nat.le_refl _) q0 (by rw [← HN.out]; omega) H1.out.2) (permIn_mono _ _ _ _ _ _ (by omega) (Nat.le_refl _) (by omega) P2)⟩⟩
          have n2 : d2.size = n := by rw [P2.1]; exact n1
          obtain ⟨S3⟩ : Nonempty (Aside (SWK enc k w0 blk off d2 w2)) := ⟨S2⟩
          clear R2 P2 S2 S1 H1 hc2
          go_loopw [6, 7, 8, 9] (fun vs va vb vm wr => (vs = .int .i64 20 ∧ wr = w2) ∨ (vs = .int .i64 40 ∧ ∃ d3 : Array α, Aside (SWK enc k w0 blk off d3 wr) ∧ Hid (SortedIn (ltOf cf) 0 n d3 ∧ PermIn 0 n d0 d3))) (fun vs _ _ _ _ => 40 - (intOf vs).toNat)
          case atStart => exact .inl ⟨rfl, rfl⟩
          case round =>
            rcases hrel with ⟨rfl, rfl⟩ | ⟨rfl, d3, S4, H3⟩
            · by_cases h21 : 20 < n
              · have h21z : (20 : Int) < (n : Int) := by omega
                have hc3 := HM.out d2 _ n2 S3.out h21 H2.out.1 H2.out.2.1
                obtain ⟨HP⟩ : Nonempty (Hid (PermIn 0 n d0 d2)) := ⟨H2.out.2.2⟩
                clear h21
                go_wp2_with fail
                go_loopw [7, 8] (fun va vb wy => va = .int .i64 0 ∧ vb = .int .i64 40 ∧ wy = wr) (fun _ _ _ => 0)
                case atStart => exact ⟨rfl, rfl, rfl⟩
                case round =>
                  obtain ⟨rfl, rfl, rfl⟩ := hrel
                  go_wp2_with (go_at_call 31; refine hc3.mono ?_; rintro ee w4 ⟨rfl, d4, S5, R5, P5⟩)
                  go_roundw
                  case rel => exact .inr ⟨rfl, d4, S5, R5, permIn_trans _ _ _ _ _ HP.out P5⟩
                  case measure => simp [intOf]
              · have h21z : ¬ (20 : Int) < (n : Int) := by omega
                go_wp2_with fail
                go_end0
                exact ⟨rfl, d2, S3.out, by have := H2.out.1; rwa [show 20 = n by omega] at this, H2.out.2.2⟩
            · have h41z : ¬ (40 : Int) < (n : Int) := by omega
              go_wp2_with fail
              go_end0
              exact ⟨rfl, d3, S4.out, H3.out.1, H3.out.2⟩
  go_enter Try.func19, Try.ntmps19
  go_wp2_with (go_at_call 27; refine CS.mono ?_; rintro ee w1 ⟨rfl, d1, S1, R1, P1⟩)
  go_end0
  exact ⟨rfl, d1, S1, R1, P1⟩
end Go.Proofs.Ytkcacdlgmapjjaa
