/-
  A table of ways: plain mathematics: entries that rise, the longest one with an address, trees of bits.
-/
import Derived.Test.YthehpnhjfnenoabDoorHalvesMath
namespace Go.Proofs.YthehpnhjfnenoabDoor
open Go

/-- an entry: its prefix, its hop. -/
abbrev Ent := (Int × Int) × Int
def lt2 (p q : Int × Int) : Bool := decide (p.1 < q.1 ∨ (p.1 = q.1 ∧ p.2 < q.2))
theorem lt2_iff (p q : Int × Int) : lt2 p q = true ↔ p.1 < q.1 ∨ (p.1 = q.1 ∧ p.2 < q.2) := by simp [lt2]
theorem lt2_ne {p q : Int × Int} (h : lt2 p q = true) : p ≠ q := by
  rintro rfl
  have := (lt2_iff _ _).1 h
  omega
theorem lt2_asymm {p q : Int × Int} (h : lt2 p q = true) (h' : lt2 q p = true) : False := by
  have := (lt2_iff _ _).1 h
  have := (lt2_iff _ _).1 h'
  omega
theorem lt2_trans {p q s : Int × Int} (h : lt2 p q = true) (h' : lt2 q s = true) : lt2 p s = true := by
  have := (lt2_iff _ _).1 h
  have := (lt2_iff _ _).1 h'
  exact (lt2_iff _ _).2 (by omega)
theorem lt2_total {p q : Int × Int} (h : ¬ lt2 p q = true) (hne : p ≠ q) : lt2 q p = true := by
  rw [lt2_iff] at h
  rw [lt2_iff]
  have : ¬ (p.1 = q.1 ∧ p.2 = q.2) := fun e => hne (Prod.ext e.1 e.2)
  omega
theorem lt2_less {p q : Int × Int} (hp : rt p.1 p.2 = true) (hq : rt q.1 q.2 = true) : lessB p.1 p.2 q.1 q.2 = lt2 p q := by
  rw [Bool.eq_iff_iff, lessB_iff _ _ _ _ hp hq, lt2_iff]
def Srt (L : List Ent) : Prop := L.Pairwise fun x y => lt2 x.1 y.1 = true
def Rts (L : List Ent) : Prop := ∀ x ∈ L, rt x.1.1 x.1.2 = true
theorem srt_nil : Srt [] := List.Pairwise.nil
theorem rts_nil : Rts [] := fun _ h => by cases h
theorem srt_cons {x : Ent} {L : List Ent} : Srt (x :: L) ↔ (∀ y ∈ L, lt2 x.1 y.1 = true) ∧ Srt L := List.pairwise_cons
theorem srt_key {L : List Ent} (h : Srt L) {x y : Ent} (hx : x ∈ L) (hy : y ∈ L) (e : x.1 = y.1) : x = y := by
  induction L with
  | nil => cases hx
  | cons z L ih =>
    obtain ⟨h1, h2⟩ := srt_cons.1 h
    rcases List.mem_cons.1 hx with hx1 | hx1
    · rcases List.mem_cons.1 hy with hy1 | hy1
      · exact hx1.trans hy1.symm
      · exact absurd (hx1 ▸ e) (lt2_ne (h1 y hy1))
    · rcases List.mem_cons.1 hy with hy1 | hy1
      · exact absurd (hy1 ▸ e).symm (lt2_ne (h1 x hx1))
      · exact ih h2 hx1 hy1
theorem srt_unique (L : List Ent) : ∀ M : List Ent, Srt L → Srt M → (∀ x, x ∈ L ↔ x ∈ M) → L = M := by
  induction L with
  | nil =>
    intro M _ _ h
    cases M with
    | nil => rfl
    | cons y M => exact absurd ((h y).2 (by simp)) (by simp)
  | cons x L ih =>
    intro M hL hM h
    cases M with
    | nil => exact absurd ((h x).1 (by simp)) (by simp)
    | cons y M =>
      obtain ⟨h1, h2⟩ := srt_cons.1 hL
      obtain ⟨h3, h4⟩ := srt_cons.1 hM
      have e : x = y := by
        rcases List.mem_cons.1 ((h x).1 (by simp)) with e | e
        · exact e
        · rcases List.mem_cons.1 ((h y).2 (by simp)) with e' | e'
          · exact e'.symm
          · exact (lt2_asymm (h3 x e) (h1 y e')).elim
      subst e
      rw [ih M h2 h4 fun z => ?_]
      constructor
      · intro hz
        rcases List.mem_cons.1 ((h z).1 (by simp [hz])) with rfl | e
        · exact absurd rfl (lt2_ne (h1 z hz))
        · exact e
      · intro hz
        rcases List.mem_cons.1 ((h z).2 (by simp [hz])) with rfl | e
        · exact absurd rfl (lt2_ne (h3 z hz))
        · exact e
/-- put an entry. -/
def putL : List Ent → Ent → List Ent
  | [], e => [e]
  | x :: L, e => if lt2 x.1 e.1 = true then x :: putL L e else if x.1 = e.1 then e :: L else e :: x :: L
def hasL (L : List Ent) (p : Int × Int) : Bool := L.any fun x => decide (x.1 = p)
def dropL (L : List Ent) (p : Int × Int) : List Ent := L.filter fun x => decide (x.1 ≠ p)
theorem hasL_iff (L : List Ent) (p : Int × Int) : hasL L p = true ↔ ∃ x ∈ L, x.1 = p := by simp [hasL]
theorem hasL_not {L : List Ent} {p : Int × Int} (h : hasL L p = false) : ∀ x ∈ L, x.1 ≠ p := by simpa [hasL] using h
theorem hasL_cons (x : Ent) (L : List Ent) (p : Int × Int) : hasL (x :: L) p = (decide (x.1 = p) || hasL L p) := by simp [hasL]
theorem put_mem {L : List Ent} (h : Srt L) (e z : Ent) : z ∈ putL L e ↔ z = e ∨ (z ∈ L ∧ z.1 ≠ e.1) := by
  induction L with
  | nil => simp [putL]
  | cons x L ih =>
    obtain ⟨h1, h2⟩ := srt_cons.1 h
    unfold putL
    split
    · rename_i hl
      rw [List.mem_cons, ih h2, List.mem_cons]
      constructor
      · rintro (rfl | rfl | ⟨a, b⟩)
        · exact .inr ⟨.inl rfl, lt2_ne hl⟩
        · exact .inl rfl
        · exact .inr ⟨.inr a, b⟩
      · rintro (rfl | ⟨rfl | a, b⟩)
        · exact .inr (.inl rfl)
        · exact .inl rfl
        · exact .inr (.inr ⟨a, b⟩)
    · rename_i hl
      split
      · rename_i he
        rw [List.mem_cons, List.mem_cons]
        constructor
        · rintro (rfl | a)
          · exact .inl rfl
          · exact .inr ⟨.inr a, fun hh => lt2_ne (h1 z a) (he.trans hh.symm)⟩
        · rintro (rfl | ⟨rfl | a, b⟩)
          · exact .inl rfl
          · exact absurd he b
          · exact .inr a
      · rename_i he
        have hlt := lt2_total hl he
        rw [List.mem_cons, List.mem_cons]
        constructor
        · rintro (rfl | rfl | a)
          · exact .inl rfl
          · exact .inr ⟨.inl rfl, he⟩
          · exact .inr ⟨.inr a, (lt2_ne (lt2_trans hlt (h1 z a))).symm⟩
        · rintro (rfl | ⟨a, b⟩)
          · exact .inl rfl
          · exact .inr a
theorem put_srt {L : List Ent} (h : Srt L) (e : Ent) : Srt (putL L e) := by
  induction L with
  | nil => exact srt_cons.2 ⟨by simp, srt_nil⟩
  | cons x L ih =>
    obtain ⟨h1, h2⟩ := srt_cons.1 h
    unfold putL
    split
    · rename_i hl
      refine srt_cons.2 ⟨fun y hy => ?_, ih h2⟩
      rcases (put_mem h2 e y).1 hy with rfl | ⟨a, -⟩
      · exact hl
      · exact h1 y a
    · rename_i hl
      split
      · rename_i he
        exact srt_cons.2 ⟨fun y hy => by rw [← he]; exact h1 y hy, h2⟩
      · rename_i he
        have hlt := lt2_total hl he
        refine srt_cons.2 ⟨fun y hy => ?_, h⟩
        rcases List.mem_cons.1 hy with rfl | a
        · exact hlt
        · exact lt2_trans hlt (h1 y a)
theorem put_rts {L : List Ent} (h : Srt L) (hr : Rts L) {e : Ent} (he : rt e.1.1 e.1.2 = true) : Rts (putL L e) := fun x hx => by
  rcases (put_mem h e x).1 hx with rfl | ⟨a, -⟩
  · exact he
  · exact hr x a
theorem put_length {L : List Ent} (h : Srt L) (e : Ent) : (putL L e).length = if hasL L e.1 = true then L.length else L.length + 1 := by
  induction L with
  | nil => simp [putL, hasL]
  | cons x L ih =>
    obtain ⟨h1, h2⟩ := srt_cons.1 h
    unfold putL
    rw [hasL_cons]
    split
    · rename_i hl
      have hne : ¬ x.1 = e.1 := lt2_ne hl
      simp only [List.length_cons, ih h2, hne, decide_false, Bool.false_or]
      split <;> rfl
    · rename_i hl
      split
      · rename_i he
        simp [he]
      · rename_i he
        have hlt := lt2_total hl he
        have hno : hasL L e.1 = false := by
          rw [Bool.eq_false_iff]
          intro hh
          obtain ⟨y, hy, e'⟩ := (hasL_iff _ _).1 hh
          exact lt2_ne (lt2_trans hlt (h1 y hy)) e'.symm
        simp [he, hno]
theorem drop_mem (L : List Ent) (p : Int × Int) (z : Ent) : z ∈ dropL L p ↔ z ∈ L ∧ z.1 ≠ p := by simp [dropL]
theorem drop_srt {L : List Ent} (h : Srt L) (p : Int × Int) : Srt (dropL L p) := List.Pairwise.filter _ h
theorem drop_rts {L : List Ent} (hr : Rts L) (p : Int × Int) : Rts (dropL L p) := fun x hx => hr x ((drop_mem L p x).1 hx).1
theorem drop_none {L : List Ent} {p : Int × Int} (h : ∀ x ∈ L, x.1 ≠ p) : dropL L p = L := by
  unfold dropL
  rw [List.filter_eq_self]
  intro x hx
  simpa using h x hx
theorem drop_length {L : List Ent} (h : Srt L) {p : Int × Int} (hp : hasL L p = true) : (dropL L p).length + 1 = L.length := by
  induction L with
  | nil => simp [hasL] at hp
  | cons x L ih =>
    obtain ⟨h1, h2⟩ := srt_cons.1 h
    by_cases hx : x.1 = p
    · have e : dropL (x :: L) p = dropL L p := by simp [dropL, hx]
      rw [e, drop_none fun y hy hh => lt2_ne (h1 y hy) (hx.trans hh.symm)]
      rfl
    · have e : dropL (x :: L) p = x :: dropL L p := by simp [dropL, hx]
      rw [hasL_cons, decide_eq_false hx, Bool.false_or] at hp
      rw [e, List.length_cons, ih h2 hp, List.length_cons]
/-- the longest with an address. -/
def Longest (L : List Ent) (a : Int) : Option Ent → Prop
  | none => ∀ x ∈ L, hasB x.1.1 x.1.2 a = false
  | some x => x ∈ L ∧ hasB x.1.1 x.1.2 a = true ∧ ∀ y ∈ L, hasB y.1.1 y.1.2 a = true → y.1.2 ≤ x.1.2
theorem same_len {p q : Int × Int} {a : Int} (hp : rt p.1 p.2 = true) (hq : rt q.1 q.2 = true) (h1 : hasB p.1 p.2 a = true) (h2 : hasB q.1 q.2 a = true) (e : p.2 = q.2) : p = q := by
  have hA := hasB_isA h1
  have c1 := cut_has hp hA h1
  have c2 := cut_has hq hA h2
  rw [e] at c1
  exact Prod.ext (c1.symm.trans c2) e
theorem longest_unique {L : List Ent} {a : Int} (h : Srt L) (hr : Rts L) {o o' : Option Ent} (h1 : Longest L a o) (h2 : Longest L a o') : o = o' := by
  cases o with
  | none =>
    cases o' with
    | none => rfl
    | some y => have := h1 y h2.1; rw [h2.2.1] at this; cases this
  | some x =>
    cases o' with
    | none => have := h2 x h1.1; rw [h1.2.1] at this; cases this
    | some y =>
      have e1 := h1.2.2 y h2.1 h2.2.1
      have e2 := h2.2.2 x h1.1 h1.2.1
      rw [srt_key h h1.1 h2.1 (same_len (hr x h1.1) (hr y h2.1) h1.2.1 h2.2.1 (by omega))]
theorem longest_isA {L : List Ent} {a : Int} (h : isA a = false) : Longest L a none := fun _ _ => hasB_not h

/-- a tree of bits: each node with its block, whether an entry is there, the entry, its kids. -/
inductive FT where
  | nil
  | node (b : Nat) (is : Bool) (e : Ent) (l r : FT)
def FT.ents : FT → List Ent
  | .nil => []
  | .node _ is e l r => (if is = true then [e] else []) ++ (l.ents ++ r.ents)
def FT.blocks : FT → List Nat
  | .nil => []
  | .node b _ _ l r => b :: (l.blocks ++ r.blocks)
/-- the tree below the prefix of address a and Len n. -/
def FT.Ok : FT → Int → Int → Prop
  | .nil, _, _ => True
  | .node _ is e l r, a, n => (is = true → e.1 = (a, n)) ∧ (n = 32 → l = .nil ∧ r = .nil) ∧ l.Ok a (n + 1) ∧ r.Ok (a + pw (n + 1)) (n + 1)
theorem ents_node (b : Nat) (is : Bool) (e x : Ent) (l r : FT) : x ∈ (FT.node b is e l r).ents ↔ (is = true ∧ x = e) ∨ x ∈ l.ents ∨ x ∈ r.ents := by
  cases is <;> simp [FT.ents]
/-- an entry of the tree below a prefix is in the prefix. -/
theorem ok_mem (T : FT) : ∀ a n : Int, rt a n = true → T.Ok a n → ∀ x ∈ T.ents, rt x.1.1 x.1.2 = true ∧ n ≤ x.1.2 ∧ a ≤ x.1.1 ∧ x.1.1 + pw x.1.2 ≤ a + pw n := by
  induction T with
  | nil => intro a n _ _ x hx; cases hx
  | node b is e l r ihl ihr =>
    intro a n hr ⟨h1, h2, h3, h4⟩ x hx
    have hL := rt_len hr
    rcases (ents_node b is e x l r).1 hx with ⟨hi, rfl⟩ | hx | hx
    · rw [h1 hi]
      exact ⟨hr, Int.le_refl _, Int.le_refl _, Int.le_refl _⟩
    · by_cases hn : n = 32
      · rw [(h2 hn).1] at hx; cases hx
      · have hs := pw_step n (by omega)
        have hp := pw_pos (n + 1)
        obtain ⟨a1, a2, a3, a4⟩ := ihl a (n + 1) (rt_x hr (by omega)) h3 x hx
        exact ⟨a1, by omega, by omega, by omega⟩
    · by_cases hn : n = 32
      · rw [(h2 hn).2] at hx; cases hx
      · have hs := pw_step n (by omega)
        have hp := pw_pos (n + 1)
        obtain ⟨a1, a2, a3, a4⟩ := ihr (a + pw (n + 1)) (n + 1) (rt_y hr (by omega)) h4 x hx
        exact ⟨a1, by omega, by omega, by omega⟩
theorem ok_srt (T : FT) : ∀ a n : Int, rt a n = true → T.Ok a n → Srt T.ents := by
  induction T with
  | nil => intro a n _ _; exact srt_nil
  | node b is e l r ihl ihr =>
    intro a n hr hk
    obtain ⟨h1, h2, h3, h4⟩ := hk
    have hL := rt_len hr
    by_cases hn : n = 32
    · rw [(h2 hn).1, (h2 hn).2]
      cases is
      · exact srt_nil
      · exact srt_cons.2 ⟨by simp [FT.ents], srt_nil⟩
    · have hs := pw_step n (by omega)
      have hp := pw_pos (n + 1)
      have hx := rt_x hr (show n < 32 by omega)
      have hy := rt_y hr (show n < 32 by omega)
      have M1 := ok_mem l a (n + 1) hx h3
      have M2 := ok_mem r _ (n + 1) hy h4
      have both : Srt (l.ents ++ r.ents) := List.pairwise_append.2 ⟨ihl a (n + 1) hx h3, ihr _ (n + 1) hy h4, fun x hxm y hym => by
        obtain ⟨-, -, -, b4⟩ := M1 x hxm
        obtain ⟨-, -, c3, -⟩ := M2 y hym
        have := pw_pos x.1.2
        exact (lt2_iff _ _).2 (by omega)⟩
      cases is
      · exact both
      · refine srt_cons.2 ⟨fun y hym => ?_, both⟩
        rw [h1 rfl]
        have hym' : y ∈ l.ents ∨ y ∈ r.ents := by simpa using hym
        rcases hym' with hm | hm
        · obtain ⟨-, b2, b3, -⟩ := M1 y hm
          exact (lt2_iff _ _).2 (by simp only; omega)
        · obtain ⟨-, b2, b3, -⟩ := M2 y hm
          exact (lt2_iff _ _).2 (by simp only; omega)
theorem ok_rts {T : FT} {a n : Int} (hr : rt a n = true) (h : T.Ok a n) : Rts T.ents := fun x hx => (ok_mem T a n hr h x hx).1

/-- which way down: is the bit behind the first n set? -/
def hiB (base n a : Int) : Bool := decide (base + pw (n + 1) ≤ a)
def kidB (base n a : Int) : Int := if hiB base n a = true then base + pw (n + 1) else base
def FT.kid (l r : FT) (h : Bool) : FT := if h = true then r else l
/-- the way down to an address, as far as a Len. -/
def FT.down : FT → Int → Int → Int → Int → Option Ent → Option Ent
  | .nil, _, _, _, _, acc => acc
  | .node _ is e l r, base, n, a, most, acc =>
    if n = most then (if is = true then some e else acc)
    else if hiB base n a = true then r.down (base + pw (n + 1)) (n + 1) a most (if is = true then some e else acc)
    else l.down base (n + 1) a most (if is = true then some e else acc)
theorem hi_has {base n a : Int} (hr : rt base n = true) (hn : n < 32) (h : hasB base n a = true) (hi : hiB base n a = true) : hasB (base + pw (n + 1)) (n + 1) a = true := by
  have hA := hasB_isA h
  have h1 := (hasB_iff hr hA).1 h
  have hs := pw_step n hn
  rw [hiB, decide_eq_true_iff] at hi
  exact (hasB_iff (rt_y hr hn) hA).2 (by omega)
theorem lo_has {base n a : Int} (hr : rt base n = true) (hn : n < 32) (h : hasB base n a = true) (hi : hiB base n a = false) : hasB base (n + 1) a = true := by
  have hA := hasB_isA h
  have h1 := (hasB_iff hr hA).1 h
  rw [hiB, decide_eq_false_iff_not] at hi
  exact (hasB_iff (rt_x hr hn) hA).2 (by omega)
theorem hi_lo {base n a : Int} {l : FT} (hr : rt base n = true) (hn : n < 32) (hl : l.Ok base (n + 1)) (hi : hiB base n a = true) : ∀ x ∈ l.ents, hasB x.1.1 x.1.2 a = false ∧ x.1.1 < a := by
  intro x hx
  obtain ⟨a1, -, a3, a4⟩ := ok_mem l base (n + 1) (rt_x hr hn) hl x hx
  rw [hiB, decide_eq_true_iff] at hi
  have hp := pw_pos x.1.2
  refine ⟨?_, by omega⟩
  rw [Bool.eq_false_iff]
  intro h
  have := (hasB_iff a1 (hasB_isA h)).1 h
  omega
theorem lo_hi {base n a : Int} {r : FT} (hr : rt base n = true) (hn : n < 32) (hl : r.Ok (base + pw (n + 1)) (n + 1)) (hi : hiB base n a = false) : ∀ x ∈ r.ents, hasB x.1.1 x.1.2 a = false ∧ a < x.1.1 := by
  intro x hx
  obtain ⟨a1, -, a3, a4⟩ := ok_mem r _ (n + 1) (rt_y hr hn) hl x hx
  rw [hiB, decide_eq_false_iff_not] at hi
  refine ⟨?_, by omega⟩
  rw [Bool.eq_false_iff]
  intro h
  have := (hasB_iff a1 (hasB_isA h)).1 h
  omega
theorem down_longest (T : FT) : ∀ (base n a : Int) (acc : Option Ent), rt base n = true → T.Ok base n → hasB base n a = true →
    (∃ x, Longest T.ents a (some x) ∧ T.down base n a 32 acc = some x) ∨ (Longest T.ents a none ∧ T.down base n a 32 acc = acc) := by
  induction T with
  | nil => intro base n a acc _ _ _; exact .inr ⟨fun x hx => (by cases hx), rfl⟩
  | node b is e l r ihl ihr =>
    intro base n a acc hr hk hh
    have hL := rt_len hr
    obtain ⟨h1, h2, h3, h4⟩ := hk
    by_cases hn : n = 32
    · unfold FT.down
      rw [if_pos hn, (h2 hn).1, (h2 hn).2]
      cases is with
      | false => exact .inr ⟨fun x hx => (by cases hx), rfl⟩
      | true =>
        refine .inl ⟨e, ⟨by simp [FT.ents], by rw [h1 rfl]; exact hh, fun y hy _ => ?_⟩, rfl⟩
        simp [FT.ents] at hy
        rw [hy]; exact Int.le_refl _
    · have hlt : n < 32 := by omega
      unfold FT.down
      rw [if_neg hn]
      have own : is = true → hasB e.1.1 e.1.2 a = true ∧ e.1.2 = n := fun hi => by rw [h1 hi]; exact ⟨hh, rfl⟩
      -- what is in neither kid
      have fin : ∀ (K : FT), (∀ x, x ∈ l.ents ∨ x ∈ r.ents → hasB x.1.1 x.1.2 a = true → x ∈ K.ents) → (∀ x ∈ K.ents, (x ∈ l.ents ∨ x ∈ r.ents) ∧ n ≤ x.1.2) →
          ∀ res : Option Ent, ((∃ x, Longest K.ents a (some x) ∧ res = some x) ∨ (Longest K.ents a none ∧ res = (if is = true then some e else acc))) →
          (∃ x, Longest (FT.node b is e l r).ents a (some x) ∧ res = some x) ∨ (Longest (FT.node b is e l r).ents a none ∧ res = acc) := by
        intro K k1 k2 res hres
        rcases hres with ⟨x, ⟨x1, x2, x3⟩, rfl⟩ | ⟨hno, rfl⟩
        · refine .inl ⟨x, ⟨(ents_node ..).2 (.inr (k2 x x1).1), x2, fun y hy hya => ?_⟩, rfl⟩
          rcases (ents_node ..).1 hy with ⟨hi, rfl⟩ | hy
          · have := (k2 x x1).2; have := (own hi).2; omega
          · exact x3 y (k1 y hy hya) hya
        · cases is with
          | true =>
            refine .inl ⟨e, ⟨(ents_node ..).2 (.inl ⟨rfl, rfl⟩), (own rfl).1, fun y hy hya => ?_⟩, rfl⟩
            rcases (ents_node ..).1 hy with ⟨-, rfl⟩ | hy
            · exact Int.le_refl _
            · have := hno y (k1 y hy hya); rw [hya] at this; cases this
          | false =>
            refine .inr ⟨fun y hy => ?_, rfl⟩
            rcases (ents_node ..).1 hy with ⟨hi, -⟩ | hy
            · cases hi
            · rw [Bool.eq_false_iff]
              intro hya
              have := hno y (k1 y hy hya); rw [hya] at this; cases this
      cases hi : hiB base n a with
      | true =>
        rw [if_pos rfl]
        refine fin r (fun x hx hxa => ?_) (fun x hx => ⟨.inr hx, ?_⟩) _ (ihr _ _ a _ (rt_y hr hlt) h4 (hi_has hr hlt hh hi))
        · rcases hx with hx | hx
          · have := (hi_lo hr hlt h3 hi x hx).1; rw [hxa] at this; cases this
          · exact hx
        · have := (ok_mem r _ _ (rt_y hr hlt) h4 x hx).2.1; omega
      | false =>
        rw [if_neg (by simp)]
        refine fin l (fun x hx hxa => ?_) (fun x hx => ⟨.inl hx, ?_⟩) _ (ihl _ _ a _ (rt_x hr hlt) h3 (lo_has hr hlt hh hi))
        · rcases hx with hx | hx
          · exact hx
          · have := (lo_hi hr hlt h4 hi x hx).1; rw [hxa] at this; cases this
        · have := (ok_mem l _ _ (rt_x hr hlt) h3 x hx).2.1; omega
/-- is what was found that very prefix? -/
def hasO (o : Option Ent) (p : Int × Int) : Bool := o.any fun x => decide (x.1 = p)
theorem base_eq {base n : Int} {p : Int × Int} (hr : rt base n = true) (hp : rt p.1 p.2 = true) (hh : hasB base n p.1 = true) (e : n = p.2) : (base, n) = p := by
  have hA := hasB_isA hh
  have c := cut_has hr hA hh
  obtain ⟨-, -, hm⟩ := (rt_iff p.1 p.2).1 hp
  rw [e, hm] at c
  exact Prod.ext (by simp only; omega) e
theorem down_has (T : FT) : ∀ (base n : Int) (p : Int × Int) (acc : Option Ent), rt base n = true → T.Ok base n → hasB base n p.1 = true → rt p.1 p.2 = true → n ≤ p.2 → hasO acc p = false →
    hasO (T.down base n p.1 p.2 acc) p = hasL T.ents p := by
  induction T with
  | nil => intro base n p acc _ _ _ _ _ h; exact h
  | node b is e l r ihl ihr =>
    intro base n p acc hr hk hh hp hle hacc
    have hL := rt_len hr
    have hL' := rt_len hp
    obtain ⟨h1, h2, h3, h4⟩ := hk
    unfold FT.down
    by_cases hn : n = p.2
    · rw [if_pos hn]
      have hb := base_eq hr hp hh hn
      cases is with
      | true =>
        have he := h1 rfl
        rw [hb] at he
        have : hasL (FT.node b true e l r).ents p = true := (hasL_iff _ _).2 ⟨e, (ents_node ..).2 (.inl ⟨rfl, rfl⟩), he⟩
        rw [this]
        simp [hasO, he]
      | false =>
        have : hasL (FT.node b false e l r).ents p = false := by
          rw [Bool.eq_false_iff]
          intro h
          obtain ⟨x, hx, e'⟩ := (hasL_iff _ _).1 h
          rcases (ents_node ..).1 hx with ⟨hi, -⟩ | hx | hx
          · cases hi
          · by_cases h32 : n = 32
            · rw [(h2 h32).1] at hx; cases hx
            · have := (ok_mem l _ _ (rt_x hr (by omega)) h3 x hx).2.1
              rw [e'] at this; omega
          · by_cases h32 : n = 32
            · rw [(h2 h32).2] at hx; cases hx
            · have := (ok_mem r _ _ (rt_y hr (by omega)) h4 x hx).2.1
              rw [e'] at this; omega
        rw [this]
        exact hacc
    · rw [if_neg hn]
      have hlt : n < 32 := by omega
      have hacc' : hasO (if is = true then some e else acc) p = false := by
        cases is with
        | false => exact hacc
        | true =>
          simp only [if_true, hasO, Option.any_some, decide_eq_false_iff_not, h1 rfl]
          rintro rfl
          exact hn rfl
      have own : ∀ x, is = true ∧ x = e → x.1 ≠ p := by
        rintro x ⟨hi, rfl⟩
        rw [h1 hi]
        rintro rfl
        exact hn rfl
      cases hi : hiB base n p.1 with
      | true =>
        rw [if_pos rfl, ihr _ _ p _ (rt_y hr hlt) h4 (hi_has hr hlt hh hi) hp (by omega) hacc', Bool.eq_iff_iff, hasL_iff, hasL_iff]
        constructor
        · rintro ⟨x, hx, e'⟩; exact ⟨x, (ents_node ..).2 (.inr (.inr hx)), e'⟩
        · rintro ⟨x, hx, e'⟩
          rcases (ents_node ..).1 hx with hx | hx | hx
          · exact absurd e' (own x hx)
          · have := (hi_lo hr hlt h3 hi x hx).2; rw [e'] at this; omega
          · exact ⟨x, hx, e'⟩
      | false =>
        rw [if_neg (by simp), ihl _ _ p _ (rt_x hr hlt) h3 (lo_has hr hlt hh hi) hp (by omega) hacc', Bool.eq_iff_iff, hasL_iff, hasL_iff]
        constructor
        · rintro ⟨x, hx, e'⟩; exact ⟨x, (ents_node ..).2 (.inr (.inl hx)), e'⟩
        · rintro ⟨x, hx, e'⟩
          rcases (ents_node ..).1 hx with hx | hx | hx
          · exact absurd e' (own x hx)
          · exact ⟨x, hx, e'⟩
          · have := (lo_hi hr hlt h4 hi x hx).2; rw [e'] at this; omega
/-- T' has what T has, and an entry in place of another one of its prefix. -/
def Put1 (T T' : FT) (e : Ent) : Prop := ∀ x, x ∈ T'.ents ↔ x = e ∨ (x ∈ T.ents ∧ x.1 ≠ e.1)
def Drop1 (T T' : FT) (p : Int × Int) : Prop := ∀ x, x ∈ T'.ents ↔ x ∈ T.ents ∧ x.1 ≠ p
theorem kids_ne {b n : Int} {l r : FT} {p : Int × Int} (hr : rt b n = true) (h2 : n = 32 → l = .nil ∧ r = .nil) (h3 : l.Ok b (n + 1)) (h4 : r.Ok (b + pw (n + 1)) (n + 1)) (hn : n = p.2) : ∀ x, x ∈ l.ents ∨ x ∈ r.ents → x.1 ≠ p := by
  have hL := rt_len hr
  rintro x (hx | hx) e'
  · by_cases h32 : n = 32
    · rw [(h2 h32).1] at hx; cases hx
    · have := (ok_mem l _ _ (rt_x hr (by omega)) h3 x hx).2.1
      rw [e'] at this; omega
  · by_cases h32 : n = 32
    · rw [(h2 h32).2] at hx; cases hx
    · have := (ok_mem r _ _ (rt_y hr (by omega)) h4 x hx).2.1
      rw [e'] at this; omega
theorem put_here {b b' : Nat} {is : Bool} {e0 e : Ent} {l r : FT} {base n : Int} (hr : rt base n = true) (hk : (FT.node b is e0 l r).Ok base n) (he : rt e.1.1 e.1.2 = true) (hh : hasB base n e.1.1 = true) (hn : n = e.1.2) :
    (FT.node b' true e l r).Ok base n ∧ Put1 (.node b is e0 l r) (.node b' true e l r) e := by
  obtain ⟨h1, h2, h3, h4⟩ := hk
  have hb := base_eq hr he hh hn
  refine ⟨⟨fun _ => hb.symm, h2, h3, h4⟩, fun x => ?_⟩
  have hne := kids_ne (p := e.1) hr h2 h3 h4 hn
  rw [ents_node, ents_node]
  constructor
  · rintro (⟨-, rfl⟩ | hx)
    · exact .inl rfl
    · exact .inr ⟨.inr hx, hne x hx⟩
  · rintro (rfl | ⟨⟨hi, rfl⟩ | hx, hxe⟩)
    · exact .inl ⟨rfl, rfl⟩
    · exact absurd ((h1 hi).trans hb) hxe
    · exact .inr hx
theorem own_ne {is : Bool} {e : Ent} {base n : Int} {p : Int × Int} (h1 : is = true → e.1 = (base, n)) (hn : n ≠ p.2) : is = true → e.1 ≠ p := by
  intro hi e'
  rw [h1 hi] at e'
  exact hn (by rw [← e'])
theorem put_right {b b' : Nat} {is : Bool} {e0 e : Ent} {l r r' : FT} {base n : Int} (hr : rt base n = true) (hn32 : n < 32) (hk : (FT.node b is e0 l r).Ok base n) (hn : n ≠ e.1.2) (hi : hiB base n e.1.1 = true) (hr' : r'.Ok (base + pw (n + 1)) (n + 1)) (hp : Put1 r r' e) :
    (FT.node b' is e0 l r').Ok base n ∧ Put1 (.node b is e0 l r) (.node b' is e0 l r') e := by
  obtain ⟨h1, h2, h3, h4⟩ := hk
  refine ⟨⟨h1, fun h => by omega, h3, hr'⟩, fun x => ?_⟩
  have ho := own_ne h1 hn
  have hl := hi_lo hr hn32 h3 hi
  rw [ents_node, ents_node, hp x]
  constructor
  · rintro (⟨hs, rfl⟩ | hx | rfl | ⟨hx, hxe⟩)
    · exact .inr ⟨.inl ⟨hs, rfl⟩, ho hs⟩
    · exact .inr ⟨.inr (.inl hx), fun e' => by have := (hl x hx).2; rw [e'] at this; omega⟩
    · exact .inl rfl
    · exact .inr ⟨.inr (.inr hx), hxe⟩
  · rintro (rfl | ⟨hs | hx | hx, hxe⟩)
    · exact .inr (.inr (.inl rfl))
    · exact .inl hs
    · exact .inr (.inl hx)
    · exact .inr (.inr (.inr ⟨hx, hxe⟩))
theorem put_left {b b' : Nat} {is : Bool} {e0 e : Ent} {l r l' : FT} {base n : Int} (hr : rt base n = true) (hn32 : n < 32) (hk : (FT.node b is e0 l r).Ok base n) (hn : n ≠ e.1.2) (hi : hiB base n e.1.1 = false) (hl' : l'.Ok base (n + 1)) (hp : Put1 l l' e) :
    (FT.node b' is e0 l' r).Ok base n ∧ Put1 (.node b is e0 l r) (.node b' is e0 l' r) e := by
  obtain ⟨h1, h2, h3, h4⟩ := hk
  refine ⟨⟨h1, fun h => by omega, hl', h4⟩, fun x => ?_⟩
  have ho := own_ne h1 hn
  have hl := lo_hi hr hn32 h4 hi
  rw [ents_node, ents_node, hp x]
  constructor
  · rintro (⟨hs, rfl⟩ | (rfl | ⟨hx, hxe⟩) | hx)
    · exact .inr ⟨.inl ⟨hs, rfl⟩, ho hs⟩
    · exact .inl rfl
    · exact .inr ⟨.inr (.inl hx), hxe⟩
    · exact .inr ⟨.inr (.inr hx), fun e' => by have := (hl x hx).2; rw [e'] at this; omega⟩
  · rintro (rfl | ⟨hs | hx | hx, hxe⟩)
    · exact .inr (.inl (.inl rfl))
    · exact .inl hs
    · exact .inr (.inl (.inr ⟨hx, hxe⟩))
    · exact .inr (.inr hx)
theorem drop_here {b b' : Nat} {is : Bool} {e0 z : Ent} {l r : FT} {base n : Int} {p : Int × Int} (hr : rt base n = true) (hk : (FT.node b is e0 l r).Ok base n) (hp : rt p.1 p.2 = true) (hh : hasB base n p.1 = true) (hn : n = p.2) :
    (FT.node b' false z l r).Ok base n ∧ Drop1 (.node b is e0 l r) (.node b' false z l r) p := by
  obtain ⟨h1, h2, h3, h4⟩ := hk
  have hb := base_eq hr hp hh hn
  refine ⟨⟨fun h => (by cases h), h2, h3, h4⟩, fun x => ?_⟩
  have hne := kids_ne (p := p) hr h2 h3 h4 hn
  rw [ents_node, ents_node]
  constructor
  · rintro (⟨h, -⟩ | hx)
    · cases h
    · exact ⟨.inr hx, hne x hx⟩
  · rintro ⟨⟨hi, rfl⟩ | hx, hxe⟩
    · exact absurd ((h1 hi).trans hb) hxe
    · exact .inr hx
theorem drop_right {b b' : Nat} {is : Bool} {e0 : Ent} {l r r' : FT} {base n : Int} {p : Int × Int} (hr : rt base n = true) (hn32 : n < 32) (hk : (FT.node b is e0 l r).Ok base n) (hn : n ≠ p.2) (hi : hiB base n p.1 = true) (hr' : r'.Ok (base + pw (n + 1)) (n + 1)) (hp : Drop1 r r' p) :
    (FT.node b' is e0 l r').Ok base n ∧ Drop1 (.node b is e0 l r) (.node b' is e0 l r') p := by
  obtain ⟨h1, h2, h3, h4⟩ := hk
  refine ⟨⟨h1, fun h => by omega, h3, hr'⟩, fun x => ?_⟩
  have ho := own_ne h1 hn
  have hl := hi_lo hr hn32 h3 hi
  rw [ents_node, ents_node, hp x]
  constructor
  · rintro (⟨hs, rfl⟩ | hx | ⟨hx, hxe⟩)
    · exact ⟨.inl ⟨hs, rfl⟩, ho hs⟩
    · exact ⟨.inr (.inl hx), fun e' => by have := (hl x hx).2; rw [e'] at this; omega⟩
    · exact ⟨.inr (.inr hx), hxe⟩
  · rintro ⟨hs | hx | hx, hxe⟩
    · exact .inl hs
    · exact .inr (.inl hx)
    · exact .inr (.inr ⟨hx, hxe⟩)
theorem drop_left {b b' : Nat} {is : Bool} {e0 : Ent} {l r l' : FT} {base n : Int} {p : Int × Int} (hr : rt base n = true) (hn32 : n < 32) (hk : (FT.node b is e0 l r).Ok base n) (hn : n ≠ p.2) (hi : hiB base n p.1 = false) (hl' : l'.Ok base (n + 1)) (hp : Drop1 l l' p) :
    (FT.node b' is e0 l' r).Ok base n ∧ Drop1 (.node b is e0 l r) (.node b' is e0 l' r) p := by
  obtain ⟨h1, h2, h3, h4⟩ := hk
  refine ⟨⟨h1, fun h => by omega, hl', h4⟩, fun x => ?_⟩
  have ho := own_ne h1 hn
  have hl := lo_hi hr hn32 h4 hi
  rw [ents_node, ents_node, hp x]
  constructor
  · rintro (⟨hs, rfl⟩ | ⟨hx, hxe⟩ | hx)
    · exact ⟨.inl ⟨hs, rfl⟩, ho hs⟩
    · exact ⟨.inr (.inl hx), hxe⟩
    · exact ⟨.inr (.inr hx), fun e' => by have := (hl x hx).2; rw [e'] at this; omega⟩
  · rintro ⟨hs | hx | hx, hxe⟩
    · exact .inl hs
    · exact .inr (.inl ⟨hx, hxe⟩)
    · exact .inr (.inr hx)
theorem drop_shut {T T' : FT} {p : Int × Int} {b : Nat} {e : Ent} (h : Drop1 T T' p) (he : T' = .node b false e .nil .nil) : Drop1 T .nil p := by
  intro x
  rw [← h x, he]
  simp [FT.ents]
/-- where a prefix is, there is a way to it. -/
theorem has_right {b : Nat} {is : Bool} {e0 : Ent} {l r : FT} {base n : Int} {p : Int × Int} (hr : rt base n = true) (hn32 : n < 32) (hk : (FT.node b is e0 l r).Ok base n) (hn : n ≠ p.2) (hi : hiB base n p.1 = true) (h : hasL (FT.node b is e0 l r).ents p = true) : hasL r.ents p = true := by
  obtain ⟨h1, h2, h3, h4⟩ := hk
  obtain ⟨x, hx, e'⟩ := (hasL_iff _ _).1 h
  rcases (ents_node ..).1 hx with ⟨hs, rfl⟩ | hx | hx
  · exact absurd e' (own_ne h1 hn hs)
  · have := (hi_lo hr hn32 h3 hi x hx).2; rw [e'] at this; omega
  · exact (hasL_iff _ _).2 ⟨x, hx, e'⟩
theorem has_left {b : Nat} {is : Bool} {e0 : Ent} {l r : FT} {base n : Int} {p : Int × Int} (hr : rt base n = true) (hn32 : n < 32) (hk : (FT.node b is e0 l r).Ok base n) (hn : n ≠ p.2) (hi : hiB base n p.1 = false) (h : hasL (FT.node b is e0 l r).ents p = true) : hasL l.ents p = true := by
  obtain ⟨h1, h2, h3, h4⟩ := hk
  obtain ⟨x, hx, e'⟩ := (hasL_iff _ _).1 h
  rcases (ents_node ..).1 hx with ⟨hs, rfl⟩ | hx | hx
  · exact absurd e' (own_ne h1 hn hs)
  · exact (hasL_iff _ _).2 ⟨x, hx, e'⟩
  · have := (lo_hi hr hn32 h4 hi x hx).2; rw [e'] at this; omega
theorem put_ents {T T' : FT} {e : Ent} {a n : Int} (hr : rt a n = true) (h : T.Ok a n) (h' : T'.Ok a n) (hp : Put1 T T' e) : T'.ents = putL T.ents e :=
  srt_unique _ _ (ok_srt T' a n hr h') (put_srt (ok_srt T a n hr h) e) fun x => by rw [hp x, put_mem (ok_srt T a n hr h)]
theorem drop_ents {T T' : FT} {p : Int × Int} {a n : Int} (hr : rt a n = true) (h : T.Ok a n) (h' : T'.Ok a n) (hp : Drop1 T T' p) : T'.ents = dropL T.ents p :=
  srt_unique _ _ (ok_srt T' a n hr h') (drop_srt (ok_srt T a n hr h) p) fun x => by rw [hp x, drop_mem]
theorem rt_00 : rt 0 0 = true := by decide
theorem has_00 {a : Int} (h : isA a = true) : hasB 0 0 a = true := (hasB_iff rt_00 h).2 (by have := (isA_iff a).1 h; rw [pw_0]; omega)
end Go.Proofs.YthehpnhjfnenoabDoor
