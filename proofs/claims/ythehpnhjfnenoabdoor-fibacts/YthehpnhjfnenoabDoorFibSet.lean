/-
  package fib's add and Set.
-/
import Derived.Test.YthehpnhjfnenoabDoorFibLaw
namespace Go.Proofs.YthehpnhjfnenoabDoor
open Go.RowKit

def addC (L : List Ent) (mo pa pn : Int) : Nat := if rt pa pn = true then (if hasL L (pa, pn) = true then 6 else if mo ≤ (L.length : Int) then 7 else 0) else chkC pa pn
def addS (L : List Ent) (mo pa pn hop : Int) : List Ent := if addC L mo pa pn = 0 then putL L ((pa, pn), hop) else L
/-- ErrExist lies somewhere. -/
def ExLaid (w : World) (E : Nat → Addr) : Prop := w.cell? ⟨4, 0, none⟩ = some (.iface 180 (.pointer (some (E 5))))
theorem ExLaid.below {w w' : World} {E : Nat → Addr} {B : Nat} (h : ExLaid w E) (hb : Below B w w') (hB : 12 ≤ B) : ExLaid w' E := by
  unfold ExLaid
  rw [hb.cell (p := ⟨4, 0, none⟩) (Nat.lt_of_lt_of_le (by decide) hB)]
  exact h
set_option linter.unusedVariables false in
set_option linter.unusedSimpArgs false in
set_option maxRecDepth 100000 in
set_option maxHeartbeats 1000000 in
theorem add_any (tb : Nat) (L : List Ent) (mo pa pn hop : Int) (F : List Nat) (E : Nat → Addr) (w : World) (h : IsTab w tb L mo F) (hE : FibErrs w E) (hX : ExLaid w E) (hF : ∀ b ∈ F, 12 ≤ b) (hw : 12 ≤ w.heap.size) :
    Calls Tryd.prog 47 #[.pointer (some ⟨tb, 0, none⟩), .agg #[.int .i64 pa, .int .i64 pn, .int .i64 hop]] w (PutPost mo F tb (ev E (addC L mo pa pn)) (addS L mo pa pn hop) w) := by
  have hba := below_alloc w (.cells #[.int .i64 pa, .int .i64 pn, .int .i64 hop] 44)
  obtain ⟨a0, a1, a2⟩ := box3_at w (.int .i64 pa) (.int .i64 pn) (.int .i64 hop) 44
  obtain ⟨HC⟩ : Nonempty (Hid (Calls _ _ _ _ _)) := ⟨check_any pa pn _ _ _ _ (hE.below hba).ip⟩
  rw [chk_ev] at HC
  obtain ⟨HT⟩ : Nonempty (Hid (IsTab w tb L mo F ∧ FibErrs w E ∧ ExLaid w E)) := ⟨⟨h, hE, hX⟩⟩
  obtain ⟨sz, hsz⟩ : ∃ b, Hid (w.heap.size = b) := ⟨_, show _ = _ from rfl⟩
  obtain ⟨W, hW⟩ : ∃ X, Hid (w.alloc (.cells #[.int .i64 pa, .int .i64 pn, .int .i64 hop] 44) = X) := ⟨_, show _ = _ from rfl⟩
  rw [show w.alloc (.cells #[.int .i64 pa, .int .i64 pn, .int .i64 hop] 44) = W from hW.out] at hba HC a0 a1 a2
  rw [show w.heap.size = sz from hsz.out] at a0 a1 a2
  clear h hE hX
  obtain ⟨res, Hres⟩ : ∃ v, Hid (ev E (addC L mo pa pn) = v) := ⟨_, show _ = _ from rfl⟩
  obtain ⟨L', HL'⟩ : ∃ v, Hid (addS L mo pa pn hop = v) := ⟨_, show _ = _ from rfl⟩
  rw [show ev E (addC L mo pa pn) = res from Hres.out, show addS L mo pa pn hop = L' from HL'.out]
  go_enter Tryd.func47, Tryd.ntmps47
  go_upto_region 1 with fail
  rw [show w.alloc (.cells #[.int .i64 pa, .int .i64 pn, .int .i64 hop] 44) = W from hW.out, show w.heap.size = sz from hsz.out]
  cases hr : rt pa pn with
  | false =>
    obtain ⟨k, hk⟩ : ∃ k, chkC pa pn = k + 1 := ⟨chkC pa pn - 1, by have := chkC_ne hr; omega⟩
    have e1 : addC L mo pa pn = k + 1 := by unfold addC; rw [hr, if_neg (by simp), hk]
    have e2 : L = L' := by rw [← HL'.out]; unfold addS; rw [e1, if_neg (by omega)]
    subst e2
    have e3 : ev E (k + 1) = res := by rw [← Hres.out, e1]
    rw [hk, e3] at HC
    simp only [ev] at e3
    subst e3
    clear e1 hk hr
    go_wp2_with fail
    refine HC.out.mono ?_
    clear HC
    rintro e w1 ⟨rfl, hb1⟩
    have hb2 := hba.trans (hb1.mono hba.size)
    clear hb1
    go_wp2_with fail
    go_ret
    exact put_same HT.out.1 hb2
  | true =>
    rw [chkC_rt pa pn hr] at HC
    simp only [ev] at HC
    go_wp2_with fail
    refine HC.out.mono ?_
    clear HC
    rintro e w1 ⟨rfl, hb1⟩
    have hb2 := hba.trans (hb1.mono hba.size)
    have b0 := cell_kept hb1 a0
    have b1 := cell_kept hb1 a1
    have b2 := cell_kept hb1 a2
    clear hb1 a0 a1 a2
    obtain ⟨x, hx⟩ : ∃ x, Hid (hasL L (pa, pn) = x) := ⟨_, show _ = _ from rfl⟩
    obtain ⟨HC⟩ : Nonempty (Hid (Calls _ _ _ _ _)) := ⟨thas_any tb L mo pa pn F w1 (HT.out.1.below hb2) hr x hx⟩
    go_wp2_with fail
    refine HC.out.mono ?_
    clear HC
    rintro e w2 ⟨rfl, hb3⟩
    have hb4 := hb2.trans (hb3.mono hb2.size)
    have c0 := cell_kept hb3 b0
    have c1 := cell_kept hb3 b1
    have c2 := cell_kept hb3 b2
    clear hb2 hb3 b0 b1 b2 hba
    cases x with
    | true =>
      have e1 : addC L mo pa pn = 6 := by unfold addC; rw [hr, if_pos rfl, if_pos hx.out]
      have e2 : L = L' := by rw [← HL'.out]; unfold addS; rw [e1, if_neg (by omega)]
      subst e2
      have e3 : ev E 6 = res := by rw [← Hres.out, e1]
      simp only [ev] at e3
      subst e3
      have hex : w2.cell? ⟨4, 0, none⟩ = _ := HT.out.2.2.below hb4 (by rw [hsz.out]; rw [hsz.out] at hw; exact hw)
      clear e1
      go_wp2_with fail
      go_ret
      exact put_same HT.out.1 hb4
    | false =>
      have e1 : addC L mo pa pn = putC L mo pa pn := by
        unfold addC putC
        rw [hr, if_pos rfl, if_pos rfl, if_neg (by rw [hx.out]; simp)]
        by_cases hm : mo ≤ (L.length : Int)
        · rw [if_pos hm, if_pos ⟨hx.out, hm⟩]
        · rw [if_neg hm, if_neg (fun h => hm h.2)]
      have e2 : putS L mo pa pn hop = L' := by rw [← HL'.out]; unfold addS putS; rw [e1]
      have e3 : ev E (putC L mo pa pn) = res := by rw [← Hres.out, e1]
      obtain ⟨HC⟩ : Nonempty (Hid (Calls _ _ _ _ _)) := ⟨put_any tb L mo pa pn hop F E w2 (HT.out.1.below hb4) (HT.out.2.1.below hb4) hF (Nat.le_trans hw hb4.size)⟩
      rw [e2, e3] at HC
      clear e1 e2 e3
      go_wp2_with fail
      refine HC.out.mono ?_
      clear HC
      rintro e w3 ⟨rfl, F', f1, f2, f3⟩
      obtain ⟨HF⟩ : Nonempty (Hid (PutPost mo F tb res L' w (.returned res) w3)) := ⟨⟨rfl, F', f1, fun b hb => by
        rcases f2 b hb with h | h
        · exact .inl h
        · exact .inr (Nat.le_trans hb4.size h), (Kept.of_below (F := F) hb4).trans f3 (fun b hb => .inl hb)⟩⟩
      clear f1 f2 f3
      go_wp2_with fail
      go_ret
      exact HF.out
/-- what is in the table beside, k taken. -/
def accL (l : List Ent) : Nat → List Ent
  | 0 => []
  | k + 1 => match l[k]? with
    | some e => putL (accL l k) e
    | none => accL l k
theorem accL_succ {l : List Ent} {k : Nat} (h : k < l.length) : accL l (k + 1) = putL (accL l k) l[k] := by
  show (match l[k]? with | some e => putL (accL l k) e | none => accL l k) = _
  rw [List.getElem?_eq_getElem h]
def okAt (mo : Int) (l : List Ent) (k : Nat) : Prop := ∀ i (h : i < l.length), i < k → addC (accL l i) mo l[i].1.1 l[i].1.2 = 0
theorem okAt_succ {mo : Int} {l : List Ent} {k : Nat} (h : okAt mo l k) (hk : k < l.length) (h0 : addC (accL l k) mo l[k].1.1 l[k].1.2 = 0) : okAt mo l (k + 1) := by
  intro i hi hik
  rcases Nat.lt_or_ge i k with h1 | h1
  · exact h i hi h1
  · obtain rfl : i = k := by omega
    exact h0
def faultObj (i : Int) (v : Value) : Obj := .cells #[.int .i64 i, v] 88 (0, 0)
/-- what Set hands back. -/
def SetPost (mo : Int) (F : List Nat) (tb : Nat) (E : Nat → Addr) (l : List Ent) (w : World) (r : Ending) (w' : World) : Prop :=
  (okAt mo l l.length ∧ r = .returned .nilIface ∧ ∃ F', IsTab w' tb (accL l l.length) mo F' ∧ (∀ b ∈ F', b ∈ F ∨ w.heap.size ≤ b) ∧ Kept F w w') ∨
  (∃ (i : Nat) (hi : i < l.length) (k b : Nat), okAt mo l i ∧ addC (accL l i) mo l[i].1.1 l[i].1.2 = k + 1 ∧ r = .returned (.iface 86 (.pointer (some ⟨b, 0, none⟩))) ∧ w'.heap[b]? = some (faultObj i (ev E (k + 1))) ∧ Below w.heap.size w w')
theorem tab_copy {w w1 : World} {tb fb : Nat} {L M : List Ent} {mo : Int} {F G : List Nat} (h1 : IsTab w1 tb L mo F) (h2 : IsTab w1 fb M mo G) (hd : ∀ b ∈ G, b ∉ F) (hb : Below w.heap.size w w1) (hG : ∀ b ∈ G, w.heap.size ≤ b) (hF : ∀ b ∈ F, b < w.heap.size) :
    ∃ p : Option Addr, w1.cell? ⟨fb, 0, none⟩ = some (.pointer p) ∧ w1.cell? ⟨fb, 1, none⟩ = some (.int .i64 mo) ∧ w1.cell? ⟨fb, 2, none⟩ = some (.int .i64 M.length) ∧ (∀ k, w1.frozen? ⟨tb, k, none⟩ = false) ∧ (∃ q, w1.cell? ⟨tb, 0, none⟩ = some q) ∧ w1.cell? ⟨tb, 1, none⟩ = some (.int .i64 mo) ∧ (∃ q, w1.cell? ⟨tb, 2, none⟩ = some q) ∧
      ∃ F', IsTab (((w1.setCell ⟨tb, 0, none⟩ (.pointer p)).setCell ⟨tb, 1, none⟩ (.int .i64 mo)).setCell ⟨tb, 2, none⟩ (.int .i64 M.length)) tb M mo F' ∧ (∀ b ∈ F', b ∈ F ∨ w.heap.size ≤ b) ∧ Kept F w (((w1.setCell ⟨tb, 0, none⟩ (.pointer p)).setCell ⟨tb, 1, none⟩ (.int .i64 mo)).setCell ⟨tb, 2, none⟩ (.int .i64 M.length)) := by
  obtain ⟨T, t1, rfl, rfl⟩ := h1
  obtain ⟨S, s1, rfl, rfl⟩ := h2
  obtain ⟨p, hp⟩ := FT.ptr_pointer S
  obtain ⟨c0, c1, c2⟩ := tab_cells s1.obj
  obtain ⟨d0, d1, d2⟩ := tab_cells t1.obj
  rw [hp] at c0
  have hne : ∀ b ∈ fb :: S.blocks, b ≠ tb := fun b hb e => hd b hb (by simp [e])
  refine ⟨p, c0, c1, c2, tab_frozen t1.obj, ⟨_, d0⟩, d1, ⟨_, d2⟩, tb :: S.blocks, ⟨S, ⟨?_, in_same S (fun c hc => ?_) s1.inn, s1.ok, List.nodup_cons.2 ⟨fun h => hne tb (by simp [h]) rfl, (List.nodup_cons.1 s1.nd).2⟩, s1.m0, s1.m1, s1.le⟩, rfl, rfl⟩, fun b hm => ?_, ?_⟩
  · have := node_set (node_set (node_set t1.obj 0 (.pointer p)) 1 (.int .i64 mo)) 2 (.int .i64 S.ents.length)
    rw [this, hp]
    rfl
  · have h := hne c (by simp [hc])
    rw [heap_far _ _ _ _ _ h, heap_far _ _ _ _ _ h, heap_far _ _ _ _ _ h]
  · rcases List.mem_cons.1 hm with rfl | hm
    · exact .inl (by simp)
    · exact .inr (hG b (by simp [hm]))
  · have hm : ∀ k, (⟨tb, k, none⟩ : Addr).block ∈ tb :: T.blocks ∨ w.heap.size ≤ (⟨tb, k, none⟩ : Addr).block := fun k => .inl (by simp)
    exact (((Kept.of_below hb).setCell (hm 0) _).setCell (hm 1) _).setCell (hm 2) _
end Go.Proofs.YthehpnhjfnenoabDoor
