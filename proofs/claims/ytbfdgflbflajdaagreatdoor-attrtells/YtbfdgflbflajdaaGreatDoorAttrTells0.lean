/-
  AttrTells: what its walk leans on: errors by their numbers, texts of both sides, what stands while it runs.
-/
import Derived.Test.YtbfdgflbflajdaaGreatDoorAttrTagIn
import Derived.Test.YtbfdgflbflajdaaGreatDoorAttrReadOf
import Derived.Test.YtbfdgflbflajdaaGreatDoorHD
import Derived.Test.YtbfdgflbflajdaaGreatDoorCode
import Derived.Deep.Cut
import Derived.Deep.CutRange
namespace Go.Proofs.YtbfdgflbflajdaaGreatDoor
open Go.RowKit
open scoped Classical

/-- an error's number, as it was asked. -/
theorem coded_ev (c : Nat) (hc : c ≤ 9) (E : Nat → Addr) (w : World) (h : ErrsLaid w E) :
    Calls Tryz.prog 23 #[ev E c, .int .i64 c] w fun r w' => r = .returned (.bool true) ∧ Below w.heap.size w w' := by
  cases c with
  | zero =>
    refine (coded_nil 0 w).mono fun e w' ⟨he, hw⟩ => ⟨by rw [he]; rfl, by rw [hw]; exact Below.refl _ _⟩
  | succ c =>
    refine (coded_plain c ((c + 1 : Nat) : Int) E w h (by omega)).mono fun e w' ⟨he, hw⟩ => ⟨by rw [he]; simp, hw⟩
theorem faulted_ok (v : Value) (f0 f1 : Int) (w : World) (hC : ∀ w', Below w.heap.size w w' → Calls Tryz.prog 53 #[v] w' fun ev w'' => ev = .returned (.tuple #[.int .i64 f0, .int .i64 f1]) ∧ Below w'.heap.size w' w'') :
    Calls Tryz.prog 18 #[v, .agg #[.int .i64 f0, .int .i64 f1]] w fun e w' => e = .returned (.bool true) ∧ Below w.heap.size w w' := by
  have hba := below_alloc w (.cells #[.int .i64 f0, .int .i64 f1] 43)
  obtain ⟨c0, c1⟩ := box_at w (.int .i64 f0) (.int .i64 f1) 43
  obtain ⟨HN⟩ : Nonempty (Hid (Calls _ _ _ _ _)) := ⟨hC _ hba⟩
  clear hC
  go_enter Tryz.func18, Tryz.ntmps18
  go_wp2_with fail
  refine HN.out.mono ?_
  clear HN
  rintro e w1 ⟨rfl, hb1⟩
  have hb := hba.trans (hb1.mono hba.size)
  have d0 := cell_kept hb1 c0
  have d1 := cell_kept hb1 c1
  have e0 : (f0 == f0) = true := by simp
  have e1 : (f1 == f1) = true := by simp
  clear hb1 c0 c1
  cases hz : (f0 == 0)
  all_goals
    go_wp2
    go_ret
    exact ⟨rfl, hb⟩
theorem faulted_err {w : World} {E : Nat → Addr} {v : Value} {c : Nat} {d : Int} (h : IsErr w E v c d) (hc : c ≤ 9) (hL : ErrsLaid w E) :
    Calls Tryz.prog 18 #[v, .agg #[.int .i64 (c : Int), .int .i64 d]] w fun e w' => e = .returned (.bool true) ∧ Below w.heap.size w w' := by
  refine faulted_ok v c d w fun w' hb => ?_
  have hL' := hL.below hb
  rcases h.below hb with ⟨rfl, rfl⟩ | ⟨h0, hp, b, rfl, c0, c1⟩
  · cases c with
    | zero => exact (code_nil w').mono fun _ _ ⟨he, hw⟩ => ⟨he, by rw [hw]; exact Below.refl _ _⟩
    | succ k =>
      have := code_plain (E k) k E w' hL' (by omega) (hL'.row k (by omega)) (fun i hi => hL'.apart k i (by omega) (by omega) (by omega)) (fun _ => rfl)
      rw [if_pos (by omega)] at this
      exact this.mono fun e w2 ⟨he, hw⟩ => ⟨by rw [he]; simp, hw⟩
  · cases c with
    | zero => omega
    | succ k =>
      have := code_fault b d (E k) k E w' hL' (by omega) (hL'.row k (by omega)) c0 c1 (fun i hi => hL'.apart k i (by omega) (by omega) (by omega)) (fun _ => rfl)
      rw [if_pos (by omega)] at this
      exact this.mono fun e w2 ⟨he, hw⟩ => ⟨by rw [he]; simp, hw⟩
/-- the text of what is told, right or not. -/
def aTxtA (A : At) : List UInt8 := if 0 < (faultA A).1 then [] else textA A
theorem text_all (v : Value) (A : At) (E : Nat → Addr) (m : Int) (w : World) (hE : AttrEnv w E m) (h : IsAttr w v A) (h1 : A.path.length ≤ 1000000) (h2 : A.tags.length ≤ 1000000) :
    Calls Tryz.prog 9 #[v] w fun r w' => r = .returned (.string ⟨(aTxtA A).toArray⟩) ∧ Below w.heap.size w w' := by
  unfold aTxtA
  rcases fault_sign A with hf | hf
  · rw [if_neg (by omega)]; exact text_right v A E m w hE h (right_of_fault (by omega))
  · rw [if_pos hf]; exact text_bad v A E m w hE h h1 h2 hf
theorem rAttrText_all (v : Value) (A : At) (w : World) (h : IsAttr w v A) (h1 : A.path.length ≤ 1000000) (h2 : A.tags.length ≤ 1000000) :
    Calls Tryz.prog 20 #[v] w fun r w' => r = .returned (.string ⟨(aTxtA A).toArray⟩) ∧ Below w.heap.size w w' := by
  unfold aTxtA
  rcases fault_sign A with hf | hf
  · rw [if_neg (by omega)]; exact rAttrText_right v A w h (right_of_fault (by omega))
  · rw [if_pos hf]; exact rAttrText_bad v A w h h1 h2 hf
/-- lists that are short. -/
def Small (A : At) : Prop := A.path.length ≤ 1000000 ∧ A.tags.length ≤ 1000000
theorem small_none : Small noneA := by constructor <;> simp [noneA]
theorem small_right {A : At} (h : RightA A) : Small A := ⟨by have := h.path; omega, by have := h.tags; omega⟩
/-- a number of an error: from 0 to 9. -/
def Num9 (n : Int) (c : Nat) : Prop := n = (c : Int) ∧ c ≤ 9
theorem fault_nine (A : At) : 0 ≤ (faultA A).1 ∧ (faultA A).1 ≤ 9 := by
  unfold faultA
  (repeat' split) <;> simp
theorem num9_of {n : Int} (h : 0 ≤ n ∧ n ≤ 9) : Num9 n n.toNat := ⟨by omega, by omega⟩
theorem read_num (l : List UInt8) : Num9 (readC l) (readC l).toNat := num9_of (by
  have := fault_nine (wordsA (parts 32 [] l))
  unfold readC
  split <;> omega)
theorem read_small (l : List UInt8) : Small (readA l) := by
  unfold readA
  by_cases h : readC l = 0
  · rw [if_pos h]
    unfold readC at h
    split at h
    · exact small_right (right_of_fault (by omega))
    · omega
  · rw [if_neg h]; exact small_none
theorem lead_num (A : At) (x n : Int) : Num9 (leadC A x n) (leadC A x n).toNat := num9_of (by
  have := fault_nine A
  unfold leadC
  (repeat' split) <;> omega)
theorem tag_num (A : At) (x : Int) : Num9 (tagC A x) (tagC A x).toNat := num9_of (by
  have := fault_nine A
  unfold tagC
  (repeat' split) <;> omega)
theorem lead_small (A : At) (x n : Int) : Small (if leadC A x n = 0 then leadA A x n else noneA) := by
  by_cases h : leadC A x n = 0
  · rw [if_pos h]
    have hA : RightA A := right_of_fault (by
      have h0 := h
      unfold leadC at h0
      have := fault_nine A
      split at h0 <;> omega)
    exact small_right (lead_right hA h)
  · rw [if_neg h]; exact small_none
theorem tag_small (A : At) (x : Int) : Small (if tagC A x = 0 then tagA A x else noneA) := by
  by_cases h : tagC A x = 0
  · rw [if_pos h]
    have hA : RightA A := right_of_fault (by
      have h0 := h
      unfold tagC at h0
      have := fault_nine A
      split at h0 <;> omega)
    exact small_right (tag_right hA h)
  · rw [if_neg h]; exact small_none
/-- SameAttr of one. -/
theorem rSame_one (v v' : Value) (A : At) (w : World) (h : IsAttr w v A) (h' : IsAttr w v' A) (hs : Small A) :
    Calls Tryz.prog 22 #[v, v'] w fun r w' => r = .returned (.bool true) ∧ Below w.heap.size w w' := by
  have := rSameAttr_any v v' A A w h h' hs.1 hs.2 hs.1 hs.2
  rw [show decide (A = A) = true from by simp] at this
  exact this
theorem AttrL.below {w w' : World} {v : Value} {A : At} {Lo : Nat} (h : AttrL w v A Lo) (hb : Below w.heap.size w w') : AttrL w' v A Lo := by
  obtain ⟨p, cp, q, cq, e, h1, h2, h3, h4, h5, h6⟩ := h
  exact ⟨p, cp, q, cq, e, h1.below hb, h2.below hb, h3, h4, h5, h6⟩
theorem AttrG.below {w w' : World} {v : Value} {A : At} {N : Nat} (h : AttrG w v A N) (hb : Below w.heap.size w w') : AttrG w' v A N := by
  obtain ⟨p, cp, q, cq, e, h1, h2, h3, h4, h5, h6⟩ := h
  exact ⟨p, cp, q, cq, e, h1.below hb, h2.below hb, h3, h4, h5, h6⟩
theorem AttrG.set5 {wx wf : World} {v : Value} {A : At} {N X : Nat} {a b c d e : Value} (h : AttrG wx v A N) (hX : X < N) (hwf : (((((wx.setCell ⟨X, 0, none⟩ a).setCell ⟨X, 1, none⟩ b).setCell ⟨X, 2, none⟩ c).setCell ⟨X, 3, none⟩ d).setCell ⟨X, 4, none⟩ e) = wf) : AttrG wf v A N := by
  subst hwf
  obtain ⟨p, cp, q, cq, e, h1, h2, h3, h4, h5, h6⟩ := h
  exact ⟨p, cp, q, cq, e, h1.kept (five_kept' wx X _ _ _ _ _) (fun b o e => by have := h5 b o e; simp; omega), h2.kept (five_kept' wx X _ _ _ _ _) (fun b o e => by have := h6 b o e; simp; omega), h3, h4, h5, h6⟩
theorem Ints.keptL {w w' : World} {F : List Nat} {p : Option Addr} {L : List Int} (h : Ints w p L) (hk : Kept F w w') (hn : ∀ b o, p = some ⟨b, o, none⟩ → 0 < L.length → b ∉ F) : Ints w' p L := fun i hi => by
  obtain ⟨b, o, e, c⟩ := h i hi
  exact ⟨b, o, e, hk.cell c (hn b o e (by omega))⟩
theorem AttrH.set5 {wx wf : World} {v : Value} {A : At} {Lo Hi X : Nat} {a b c d e : Value} (h : AttrH wx v A Lo Hi) (hL : Lo ≤ X) (hX : X < Hi) (hwf : (((((wx.setCell ⟨X, 0, none⟩ a).setCell ⟨X, 1, none⟩ b).setCell ⟨X, 2, none⟩ c).setCell ⟨X, 3, none⟩ d).setCell ⟨X, 4, none⟩ e) = wf) : AttrK wf v A := by
  subst hwf
  obtain ⟨p, cp, q, cq, e, h1, h2, h3, h4, h5, h6⟩ := h
  exact ⟨p, cp, q, cq, e, h1.keptL (five_kept' wx X _ _ _ _ _) (fun b o e hl => by have := h5 b o e hl; simp; omega), h2.keptL (five_kept' wx X _ _ _ _ _) (fun b o e hl => by have := h6 b o e hl; simp; omega), h3, h4⟩
/-- an attribute's place. -/
def Row5 (wx : World) (X : Nat) : Prop := ∃ a b c d e, RY wx X #[a, b, c, d, e]
theorem RY.lt {wx : World} {X : Nat} {va : Array Value} (h : RY wx X va) : X < wx.heap.size := (Array.getElem?_eq_some_iff.1 h).1
theorem RY.on {wx w' : World} {X : Nat} {va : Array Value} (h : RY wx X va) (hb : Below wx.heap.size wx w') : RY w' X va := by
  unfold RY; rw [hb.block X h.lt]; exact h
theorem Row5.on {wx w' : World} {X : Nat} (h : Row5 wx X) (hb : Below wx.heap.size wx w') : Row5 w' X := by
  obtain ⟨a, b, c, d, e, h⟩ := h
  exact ⟨a, b, c, d, e, h.on hb⟩
theorem Row5.lt {wx : World} {X : Nat} (h : Row5 wx X) : X < wx.heap.size := by
  obtain ⟨a, b, c, d, e, h⟩ := h
  exact h.lt
theorem RY.soft {wx : World} {X : Nat} {va : Array Value} (h : RY wx X va) (k : Nat) : wx.frozen? ⟨X, k, none⟩ = false := by
  unfold RY at h
  simp [World.frozen?, h]
theorem RY.set5 {wx wf : World} {X : Nat} {u0 u1 u2 u3 u4 a b c d e : Value} (h : RY wx X #[u0, u1, u2, u3, u4]) (hwf : (((((wx.setCell ⟨X, 0, none⟩ a).setCell ⟨X, 1, none⟩ b).setCell ⟨X, 2, none⟩ c).setCell ⟨X, 3, none⟩ d).setCell ⟨X, 4, none⟩ e) = wf) : RY wf X #[a, b, c, d, e] := by
  subst hwf
  have x5 := ((((h.set 0 a).set 1 b).set 2 c).set 3 d).set 4 e
  simp only [List.setIfInBounds_toArray, List.set_cons_zero, List.set_cons_succ] at x5
  exact x5
theorem RY.other {wx wf : World} {X Y : Nat} {va : Array Value} {a b c d e : Value} (h : RY wx Y va) (hn : Y ≠ X) (hwf : (((((wx.setCell ⟨X, 0, none⟩ a).setCell ⟨X, 1, none⟩ b).setCell ⟨X, 2, none⟩ c).setCell ⟨X, 3, none⟩ d).setCell ⟨X, 4, none⟩ e) = wf) : RY wf Y va := by
  subst hwf
  exact (five_kept' wx X a b c d e).heap h (by simpa using hn)
theorem Row5.other {wx wf : World} {X Y : Nat} {a b c d e : Value} (h : Row5 wx Y) (hn : Y ≠ X) (hwf : (((((wx.setCell ⟨X, 0, none⟩ a).setCell ⟨X, 1, none⟩ b).setCell ⟨X, 2, none⟩ c).setCell ⟨X, 3, none⟩ d).setCell ⟨X, 4, none⟩ e) = wf) : Row5 wf Y := by
  obtain ⟨u0, u1, u2, u3, u4, h⟩ := h
  exact ⟨u0, u1, u2, u3, u4, h.other hn hwf⟩
theorem below_set5 {W wx wf : World} {Z X : Nat} {a b c d e : Value} (h : Below Z W wx) (hX : Z ≤ X) (hwf : (((((wx.setCell ⟨X, 0, none⟩ a).setCell ⟨X, 1, none⟩ b).setCell ⟨X, 2, none⟩ c).setCell ⟨X, 3, none⟩ d).setCell ⟨X, 4, none⟩ e) = wf) : Below Z W wf := by
  subst hwf
  exact setFive h hX a b c d e
theorem size_set5 {wx wf : World} {X : Nat} {a b c d e : Value} (hwf : (((((wx.setCell ⟨X, 0, none⟩ a).setCell ⟨X, 1, none⟩ b).setCell ⟨X, 2, none⟩ c).setCell ⟨X, 3, none⟩ d).setCell ⟨X, 4, none⟩ e) = wf) : wf.heap.size = wx.heap.size := by
  subst hwf
  simp [World.setCell]
/-- the law's two arguments, while it runs. -/
structure TS (w W : World) (N : Nat) (E : Nat → Addr) (m : Int) (A C : At) (p : Option Addr) (cp : Nat) (q : Option Addr) (cq : Nat) (p' : Option Addr) (cp' : Nat) (q' : Option Addr) (cq' : Nat) : Prop where
  ra : RY W N #[.slice p A.path.length cp, .int .i64 A.pref, .int .i64 A.med, .int .i64 A.org, .slice q A.tags.length cq]
  rc : RY W (N + 1) #[.slice p' C.path.length cp', .int .i64 C.pref, .int .i64 C.med, .int .i64 C.org, .slice q' C.tags.length cq']
  bel : Below N w W
  env : AttrEnv W E m
  errs : ErrsLaid W E
  ka : AttrL W (.agg #[.slice p A.path.length cp, .int .i64 A.pref, .int .i64 A.med, .int .i64 A.org, .slice q A.tags.length cq]) A N
  kc : AttrK W (.agg #[.slice p' C.path.length cp', .int .i64 C.pref, .int .i64 C.med, .int .i64 C.org, .slice q' C.tags.length cq']) C
theorem TS.on {w W W' : World} {N : Nat} {E : Nat → Addr} {m : Int} {A C : At} {p : Option Addr} {cp : Nat} {q : Option Addr} {cq : Nat} {p' : Option Addr} {cp' : Nat} {q' : Option Addr} {cq' : Nat} (h : TS w W N E m A C p cp q cq p' cp' q' cq') (hb : Below W.heap.size W W') : TS w W' N E m A C p cp q cq p' cp' q' cq' :=
  ⟨h.ra.on hb, h.rc.on hb, h.bel.trans (hb.mono (Nat.le_of_lt h.ra.lt)), h.env.below hb, h.errs.below hb, h.ka.below hb, h.kc.below hb⟩
theorem ts_start {w : World} {E : Nat → Addr} {m : Int} {A C : At} {p : Option Addr} {cp : Nat} {q : Option Addr} {cq : Nat} {p' : Option Addr} {cp' : Nat} {q' : Option Addr} {cq' : Nat} (hE : AttrEnv w E m) (hL : ErrsLaid w E) (hA : AttrK w (.agg #[.slice p A.path.length cp, .int .i64 A.pref, .int .i64 A.med, .int .i64 A.org, .slice q A.tags.length cq]) A) (hC : AttrK w (.agg #[.slice p' C.path.length cp', .int .i64 C.pref, .int .i64 C.med, .int .i64 C.org, .slice q' C.tags.length cq']) C) :
    TS w ((w.alloc (.cells #[.slice p A.path.length cp, .int .i64 A.pref, .int .i64 A.med, .int .i64 A.org, .slice q A.tags.length cq] 24)).alloc (.cells #[.slice p' C.path.length cp', .int .i64 C.pref, .int .i64 C.med, .int .i64 C.org, .slice q' C.tags.length cq'] 24)) w.heap.size E m A C p cp q cq p' cp' q' cq' := by
  have hx := ax_start w #[.slice p A.path.length cp, .int .i64 A.pref, .int .i64 A.med, .int .i64 A.org, .slice q A.tags.length cq] #[.slice p' C.path.length cp', .int .i64 C.pref, .int .i64 C.med, .int .i64 C.org, .slice q' C.tags.length cq']
  exact ⟨hx.1, hx.2.1, hx.2.2, hE.below hx.2.2, hL.below hx.2.2, attrL_of hA hx.2.2, hC.below hx.2.2⟩
/-- the own copy besides, at X1. -/
structure TO (w W : World) (N : Nat) (E : Nat → Addr) (m : Int) (A C : At) (p : Option Addr) (cp : Nat) (q : Option Addr) (cq : Nat) (p' : Option Addr) (cp' : Nat) (q' : Option Addr) (cq' : Nat) (X1 : Nat) (p1 : Option Addr) (c1 : Nat) (q1 : Option Addr) (d1 : Nat) : Prop where
  ts : TS w W N E m A C p cp q cq p' cp' q' cq'
  ro : RY W X1 #[.slice p1 A.path.length c1, .int .i64 A.pref, .int .i64 A.med, .int .i64 A.org, .slice q1 A.tags.length d1]
  ko : AttrK W (.agg #[.slice p1 A.path.length c1, .int .i64 A.pref, .int .i64 A.med, .int .i64 A.org, .slice q1 A.tags.length d1]) A
theorem TO.on {w W W' : World} {N : Nat} {E : Nat → Addr} {m : Int} {A C : At} {p : Option Addr} {cp : Nat} {q : Option Addr} {cq : Nat} {p' : Option Addr} {cp' : Nat} {q' : Option Addr} {cq' : Nat} {X1 : Nat} {p1 : Option Addr} {c1 : Nat} {q1 : Option Addr} {d1 : Nat} (h : TO w W N E m A C p cp q cq p' cp' q' cq' X1 p1 c1 q1 d1) (hb : Below W.heap.size W W') : TO w W' N E m A C p cp q cq p' cp' q' cq' X1 p1 c1 q1 d1 :=
  ⟨h.ts.on hb, h.ro.on hb, h.ko.below hb⟩
/-- what stands between the law's parts: all below Z as it was, two attributes' places. -/
structure SS (W wx : World) (Z X2 X3 : Nat) : Prop where
  b : Below Z W wx
  r2 : Row5 wx X2
  r3 : Row5 wx X3
theorem SS.on {W wx w' : World} {Z X2 X3 : Nat} (h : SS W wx Z X2 X3) (hZ : Z ≤ X2) (hb : Below wx.heap.size wx w') : SS W w' Z X2 X3 :=
  ⟨h.b.trans (hb.mono (by have := h.r2.lt; omega)), h.r2.on hb, h.r3.on hb⟩
theorem SS.set2 {W wx wf : World} {Z X X3 : Nat} {a b c d e : Value} (h : SS W wx Z X X3) (hZ : Z ≤ X) (hn : X3 ≠ X) (hwf : (((((wx.setCell ⟨X, 0, none⟩ a).setCell ⟨X, 1, none⟩ b).setCell ⟨X, 2, none⟩ c).setCell ⟨X, 3, none⟩ d).setCell ⟨X, 4, none⟩ e) = wf) : SS W wf Z X X3 := by
  obtain ⟨u0, u1, u2, u3, u4, hr⟩ := h.r2
  exact ⟨below_set5 h.b hZ hwf, ⟨_, _, _, _, _, hr.set5 hwf⟩, h.r3.other hn hwf⟩
theorem SS.set3 {W wx wf : World} {Z X X2 : Nat} {a b c d e : Value} (h : SS W wx Z X2 X) (hZ : Z ≤ X) (hn : X2 ≠ X) (hwf : (((((wx.setCell ⟨X, 0, none⟩ a).setCell ⟨X, 1, none⟩ b).setCell ⟨X, 2, none⟩ c).setCell ⟨X, 3, none⟩ d).setCell ⟨X, 4, none⟩ e) = wf) : SS W wf Z X2 X := by
  obtain ⟨u0, u1, u2, u3, u4, hr⟩ := h.r3
  exact ⟨below_set5 h.b hZ hwf, h.r2.other hn hwf, ⟨_, _, _, _, _, hr.set5 hwf⟩⟩
theorem AttrK.path {w : World} {A : At} {p q : Option Addr} {cp cq : Nat} (h : AttrK w (.agg #[.slice p A.path.length cp, .int .i64 A.pref, .int .i64 A.med, .int .i64 A.org, .slice q A.tags.length cq]) A) : Ints w p A.path := by
  obtain ⟨p', cp', q', cq', e, h1, h2, h3, h4⟩ := h
  simp only [Value.agg.injEq, Array.mk.injEq, List.cons.injEq, Value.slice.injEq, and_true, true_and] at e
  obtain ⟨⟨rfl, rfl⟩, rfl, rfl⟩ := e
  exact h1
end Go.Proofs.YtbfdgflbflajdaaGreatDoor
