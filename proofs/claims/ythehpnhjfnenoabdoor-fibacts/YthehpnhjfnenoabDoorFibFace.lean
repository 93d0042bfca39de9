/-
  package fib's faces that only look: New, Count, Find, All; has: is a prefix there itself?
-/
import Derived.Test.YthehpnhjfnenoabDoorFibLongest1
import Derived.Test.YthehpnhjfnenoabDoorRefBase
import Derived.Laws.ResultCell
import Derived.RegionTactic
namespace Go.Proofs.YthehpnhjfnenoabDoor
open Go.RowKit

/-- an error by its number. -/
def ev (E : Nat → Addr) : Nat → Value
  | 0 => .nilIface
  | c + 1 => .iface 180 (.pointer (some (E c)))
/-- the errors that package fib hands back lie somewhere. -/
structure FibErrs (w : World) (E : Nat → Addr) : Prop where
  bound : w.cell? ⟨2, 0, none⟩ = some (.iface 180 (.pointer (some (E 1))))
  shape : w.cell? ⟨3, 0, none⟩ = some (.iface 180 (.pointer (some (E 2))))
  gone : w.cell? ⟨1, 0, none⟩ = some (.iface 180 (.pointer (some (E 4))))
  full : w.cell? ⟨0, 0, none⟩ = some (.iface 180 (.pointer (some (E 6))))
theorem FibErrs.kept {F : List Nat} {w w' : World} {E : Nat → Addr} (h : FibErrs w E) (hk : Kept F w w') (hF : ∀ b ∈ F, 12 ≤ b) : FibErrs w' E := by
  have hn : ∀ g, g < 12 → g ∉ F := fun g hg hm => by have := hF g hm; omega
  exact ⟨hk.cell h.bound (hn _ (by decide)), hk.cell h.shape (hn _ (by decide)), hk.cell h.gone (hn _ (by decide)), hk.cell h.full (hn _ (by decide))⟩
theorem FibErrs.below {w w' : World} {E : Nat → Addr} (h : FibErrs w E) (hb : Below w.heap.size w w') : FibErrs w' E := h.kept (F := []) (Kept.of_below hb) (by simp)
theorem FibErrs.ip {w : World} {E : Nat → Addr} (h : FibErrs w E) : IpErrs w (E 0) (E 1) (E 2) := ⟨rfl, h.bound, h.shape⟩
theorem chk_ev (a n : Int) (E : Nat → Addr) : chk a n (E 1) (E 2) = ev E (chkC a n) := by
  unfold chk chkC
  split
  · split <;> rfl
  · rfl
/-- a table, by its entries and its blocks. -/
def IsTab (w : World) (tb : Nat) (L : List Ent) (most : Int) (F : List Nat) : Prop := ∃ T : FT, Tab w tb T most ∧ T.ents = L ∧ tb :: T.blocks = F
theorem IsTab.kept {G : List Nat} {w w' : World} {tb : Nat} {L : List Ent} {most : Int} {F : List Nat} (h : IsTab w tb L most F) (hk : Kept G w w') (hd : ∀ b ∈ F, b ∉ G) : IsTab w' tb L most F := by
  obtain ⟨T, h1, h2, h3⟩ := h
  exact ⟨T, h1.kept hk (by rw [h3]; exact hd), h2, h3⟩
theorem IsTab.below {w w' : World} {tb : Nat} {L : List Ent} {most : Int} {F : List Nat} (h : IsTab w tb L most F) (hb : Below w.heap.size w w') : IsTab w' tb L most F := h.kept (G := []) (Kept.of_below hb) (by simp)
theorem IsTab.lt {w : World} {tb : Nat} {L : List Ent} {most : Int} {F : List Nat} (h : IsTab w tb L most F) : ∀ b ∈ F, b < w.heap.size := by
  obtain ⟨T, h1, h2, h3⟩ := h
  rw [← h3]; exact h1.lt
theorem IsTab.mem {w : World} {tb : Nat} {L : List Ent} {most : Int} {F : List Nat} (h : IsTab w tb L most F) : tb ∈ F := by
  obtain ⟨T, h1, h2, h3⟩ := h
  rw [← h3]; simp
theorem IsTab.srt {w : World} {tb : Nat} {L : List Ent} {most : Int} {F : List Nat} (h : IsTab w tb L most F) : Srt L := by
  obtain ⟨T, h1, rfl, h3⟩ := h
  exact h1.srt
theorem IsTab.rts {w : World} {tb : Nat} {L : List Ent} {most : Int} {F : List Nat} (h : IsTab w tb L most F) : Rts L := by
  obtain ⟨T, h1, rfl, h3⟩ := h
  exact h1.rts
theorem IsTab.le {w : World} {tb : Nat} {L : List Ent} {most : Int} {F : List Nat} (h : IsTab w tb L most F) : (L.length : Int) ≤ most ∧ 0 ≤ most ∧ most ≤ 60 := by
  obtain ⟨T, h1, rfl, h3⟩ := h
  exact ⟨h1.le, h1.m0, h1.m1⟩

theorem new_any (m k : Int) (hk : Hid (min (max m 0) 60 = k)) (w : World) : Calls Tryd.prog 14 #[.int .i64 m] w fun r w' => r = .returned (.pointer (some ⟨w.heap.size, 0, none⟩)) ∧ IsTab w' w.heap.size [] k [w.heap.size] ∧ Below w.heap.size w w' := by
  have hrow := Go.heap_alloc_new w (.cells #[.pointer none, .int .i64 k, .int .i64 0] 77)
  obtain ⟨HT⟩ : Nonempty (Hid (IsTab (w.alloc (.cells #[.pointer none, .int .i64 k, .int .i64 0] 77)) w.heap.size [] k [w.heap.size])) := ⟨⟨.nil, ⟨hrow, trivial, trivial, by simp [FT.blocks], by have := hk.out; omega, by have := hk.out; omega, by have := hk.out; simp [FT.ents]; omega⟩, rfl, rfl⟩⟩
  clear hrow
  have hkk : (if 60 < (if m < 0 then 0 else m) then 60 else (if m < 0 then 0 else m)) = k := by rw [← hk.out]; split <;> split <;> omega
  go_enter Tryd.func14, Tryd.ntmps14
  go_wp2
  all_goals
    go_ret
    exact ⟨rfl, HT.out, below_alloc _ _⟩
theorem count_any' (tb : Nat) (L : List Ent) (mo : Int) (F : List Nat) (w : World) (h : IsTab w tb L mo F) : Calls Tryd.prog 21 #[.pointer (some ⟨tb, 0, none⟩)] w fun r w' => r = .returned (.int .i64 L.length) ∧ w' = w := by
  obtain ⟨T, h1, rfl, h3⟩ := h
  obtain ⟨t0, t1, t2⟩ := tab_cells h1.obj
  clear h1
  go_enter Tryd.func21, Tryd.ntmps21
  go_wp2
  go_ret
  exact ⟨rfl, rfl⟩
theorem all_any (tb : Nat) (L : List Ent) (mo : Int) (F : List Nat) (w : World) (h : IsTab w tb L mo F) : Calls Tryd.prog 16 #[.pointer (some ⟨tb, 0, none⟩)] w fun r w' => ∃ v, r = .returned v ∧ w'.ownsRow w.heap.size 44 3 v L.length (flat3 L) ∧ Below w.heap.size w w' := by
  have hl := h.le
  obtain ⟨T, h1, rfl, h3⟩ := h
  obtain ⟨t0, t1, t2⟩ := tab_cells h1.obj
  obtain ⟨tp, htp⟩ := FT.ptr_pointer T
  obtain ⟨HC⟩ : Nonempty (Hid (Calls _ _ _ _ _)) := ⟨gather_any w.heap.size T [] (.slice none 0 0) w h1.inn (fun b hb => h1.lt b (by simp [hb])) (Nat.le_refl _) (World.ownsRow_nil _ _ _ _) (by simp; omega)⟩
  rw [htp] at t0 HC
  clear htp h1
  go_enter Tryd.func16, Tryd.ntmps16
  go_wp2_with fail
  refine HC.out.mono ?_
  rintro e w1 ⟨v, rfl, ho, hb⟩
  obtain ⟨HO⟩ : Nonempty (Hid (w1.ownsRow w.heap.size 44 3 v T.ents.length (flat3 T.ents) ∧ Below w.heap.size w w1)) := ⟨⟨ho, hb⟩⟩
  clear ho hb HC
  go_wp2_with fail
  go_ret
  exact ⟨v, rfl, HO.out.1, HO.out.2⟩
set_option linter.unusedVariables false in
set_option linter.unusedSimpArgs false in
set_option maxRecDepth 100000 in
set_option maxHeartbeats 1000000 in
theorem thas_any (tb : Nat) (L : List Ent) (mo pa pn : Int) (F : List Nat) (w : World) (h : IsTab w tb L mo F) (hp : rt pa pn = true) (x : Bool) (hx : Hid (hasL L (pa, pn) = x)) :
    Calls Tryd.prog 40 #[.pointer (some ⟨tb, 0, none⟩), .agg #[.int .i64 pa, .int .i64 pn]] w fun r w' => r = .returned (.bool x) ∧ Below w.heap.size w w' := by
  obtain ⟨T, h1, rfl, h3⟩ := h
  have hL := rt_len hp
  obtain ⟨o, ho⟩ : ∃ o, Hid (T.down 0 0 pa pn none = o) := ⟨_, show _ = _ from rfl⟩
  have hhas := down_has T 0 0 (pa, pn) none rt_00 h1.ok (has_00 (rt_isA hp)) hp hL.1 rfl
  simp only at hhas
  rw [ho.out, hx.out] at hhas
  have hba := below_alloc w (.cells #[.int .i64 pa, .int .i64 pn] 36)
  obtain ⟨HC⟩ : Nonempty (Hid (Calls _ _ _ _ _)) := ⟨longest_any tb T mo pa pn _ (h1.below hba) (rt_isA hp) hL.1 hL.2 o ho⟩
  obtain ⟨HB⟩ : Nonempty (Hid (Below w.heap.size w _)) := ⟨hba⟩
  obtain ⟨HH⟩ : Nonempty (Hid (hasO o (pa, pn) = x)) := ⟨hhas⟩
  obtain ⟨a0, a1⟩ := box_at w (.int .i64 pa) (.int .i64 pn) 36
  clear h1 hhas ho hx hba
  go_enter Tryd.func40, Tryd.ntmps40
  go_wp2_with fail
  refine HC.out.mono ?_
  clear HC
  rintro e w1 ⟨rfl, hb1⟩
  have b0 := cell_kept hb1 a0
  have b1 := cell_kept hb1 a1
  have hb2 := HB.out.trans (hb1.mono HB.out.size)
  have hz : w.heap.size < w1.heap.size := by have := hb1.size; simp at this; omega
  clear a0 a1 hb1 HB
  cases o with
  | none =>
    obtain rfl : false = x := HH.out
    go_wp2_with fail
    go_ret
    exact ⟨rfl, hb2.alloc hb2.size _⟩
  | some e =>
    obtain ⟨⟨ea, en⟩, eh⟩ := e
    have HX : Hid (decide ((ea, en) = (pa, pn)) = x) := HH.out
    simp only [accE, Option.getD_some, Option.isSome_some]
    go_wp2_with fail
    all_goals
      go_ret
      exact ⟨ret_bool (by rw [← HX.out]; simp [*]), hb2.alloc hb2.size _⟩
end Go.Proofs.YthehpnhjfnenoabDoor
