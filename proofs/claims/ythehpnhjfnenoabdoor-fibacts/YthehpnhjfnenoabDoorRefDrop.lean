/-
  The document's Drop.
-/
import Derived.Test.YthehpnhjfnenoabDoorRefFind
namespace Go.Proofs.YthehpnhjfnenoabDoor
open Go.RowKit

/-- what Put and Drop of the document's table hand back. -/
def RPost (mo : Int) (G : List Nat) (rb : Nat) (c : Int) (L' : List Ent) (w : World) (r : Ending) (w' : World) : Prop :=
  r = .returned (.int .i64 c) ∧ ∃ G', RTab w' rb L' mo G' ∧ (∀ b ∈ G', b ∈ G ∨ w.heap.size ≤ b) ∧ Kept G w w'
theorem rpost_same {mo c : Int} {G : List Nat} {rb : Nat} {L : List Ent} {w w' : World} (h : RTab w rb L mo G) (hb : Below w.heap.size w w') : RPost mo G rb c L w (.returned (.int .i64 c)) w' :=
  ⟨rfl, G, h.below hb, fun _ hm => .inl hm, Kept.of_below hb⟩
/-- the beginning of a slice, and its end. -/
theorem ents_take {w : World} {p : Option Addr} {L : List Ent} (h : Ents w p L) (k : Nat) : Ents w p (L.take k) := fun i hi => by
  have hi' : i < L.length := by simp at hi; omega
  obtain ⟨b, o, e, c0, c1, c2⟩ := h i hi'
  exact ⟨b, o, e, by simpa using c0, by simpa using c1, by simpa using c2⟩
theorem ents_drop {w : World} {b o : Nat} {L : List Ent} (h : Ents w (some ⟨b, o, none⟩) L) (k : Nat) : Ents w (some ⟨b, o + k * 3, none⟩) (L.drop k) := fun i hi => by
  have hi' : k + i < L.length := by simp at hi; omega
  obtain ⟨b', o', e, c0, c1, c2⟩ := h (k + i) hi'
  simp only [Option.some.injEq, Addr.mk.injEq, and_true] at e
  obtain ⟨rfl, rfl⟩ := e
  rw [show o + (k + i) * 3 = o + k * 3 + i * 3 by omega] at c0 c1 c2
  exact ⟨b, o + k * 3, rfl, by simpa using c0, by simpa using c1, by simpa using c2⟩
set_option linter.unusedVariables false in
set_option linter.unusedSimpArgs false in
set_option maxRecDepth 100000 in
set_option maxHeartbeats 1000000 in
theorem rDrop_any (rb : Nat) (L : List Ent) (mo pa pn : Int) (G : List Nat) (w : World) (h : RTab w rb L mo G) (hs : Srt L) (hl : L.length ≤ 1000000) :
    Calls Tryd.prog 29 #[.pointer (some ⟨rb, 0, none⟩), .agg #[.int .i64 pa, .int .i64 pn]] w (RPost mo G rb (dropC L pa pn) (dropS L pa pn) w) := by
  obtain ⟨i0, hi, hz0, hz1, hz2⟩ := info_parts3 infoREnt
  obtain ⟨HT⟩ : Nonempty (Hid (RTab w rb L mo G ∧ Srt L)) := ⟨⟨h, hs⟩⟩
  have hba := below_alloc w (.cells #[.int .i64 pa, .int .i64 pn] 36)
  obtain ⟨a0, a1⟩ := box_at w (.int .i64 pa) (.int .i64 pn) 36
  obtain ⟨v, h1, h2, h3, h4⟩ := h
  obtain ⟨q, cap, rfl, hcap, hcap2, hq⟩ := own_ents h2
  obtain ⟨-, t1, tz⟩ := rtab_cells h1
  have hrb := (Array.getElem?_eq_some_iff.1 h1).1
  obtain ⟨HE⟩ : Nonempty (Hid (Ents w q L ∧ w.heap[rb]? = some (rtabObj mo (.slice q L.length cap)) ∧ Kind3 (.slice q L.length cap) L.length ∧ rb ∈ G)) := ⟨⟨hq, h1, by
    rcases h2.2 with ⟨e, e'⟩ | ⟨g, c, cur, e, -⟩
    · exact .inl ⟨e, e'⟩
    · exact .inr ⟨_, _, e⟩, by rw [← h4]; simp⟩⟩
  have q9 : cap ≤ maxLen := hcap2
  clear h2 h3 h4 hs hq hcap2 h1 t1 tz
  obtain ⟨sz, hsz⟩ : ∃ b, Hid (w.heap.size = b) := ⟨_, show _ = _ from rfl⟩
  obtain ⟨W, hW⟩ : ∃ X, Hid (w.alloc (.cells #[.int .i64 pa, .int .i64 pn] 36) = X) := ⟨_, show _ = _ from rfl⟩
  rw [show w.alloc (.cells #[.int .i64 pa, .int .i64 pn] 36) = W from hW.out] at hba a0 a1
  rw [show w.heap.size = sz from hsz.out] at a0 a1
  obtain ⟨c, hc⟩ : ∃ c : Int, Hid ((chkC pa pn : Int) = c) := ⟨_, show _ = _ from rfl⟩
  obtain ⟨HC⟩ : Nonempty (Hid (Calls _ _ _ _ _)) := ⟨rPrefixError_at pa pn c hc W⟩
  obtain ⟨res, Hres⟩ : ∃ v : Int, Hid ((dropC L pa pn : Int) = v) := ⟨_, show _ = _ from rfl⟩
  obtain ⟨L', HL'⟩ : ∃ v, Hid (dropS L pa pn = v) := ⟨_, show _ = _ from rfl⟩
  rw [show (dropC L pa pn : Int) = res from Hres.out, show dropS L pa pn = L' from HL'.out]
  go_enter Tryd.func29, Tryd.ntmps29
  go_upto_region 1 with fail
  rw [show w.alloc (.cells #[.int .i64 pa, .int .i64 pn] 36) = W from hW.out, show w.heap.size = sz from hsz.out]
  cases hr : rt pa pn with
  | false =>
    have e1 : dropC L pa pn = chkC pa pn := by unfold dropC; rw [hr, if_neg (by simp)]
    have e2 : L = L' := by rw [← HL'.out]; unfold dropS; rw [e1, if_neg (chkC_ne hr)]
    subst e2
    obtain rfl : c = res := by rw [← Hres.out, e1]; exact hc.out.symm
    have hcp : 0 < c := by have := chkC_ne hr; have := hc.out; omega
    clear e1
    go_wp2_with fail
    refine HC.out.mono ?_
    clear HC
    rintro e w1 ⟨rfl, hb1⟩
    have hb2 := hba.trans (hb1.mono hba.size)
    clear hb1
    go_wp2_with fail
    go_ret
    exact rpost_same HT.out.1 hb2
  | true =>
    obtain rfl : c = 0 := by rw [← hc.out, chkC_rt pa pn hr]; rfl
    go_wp2_with fail
    refine HC.out.mono ?_
    clear HC
    rintro e w1 ⟨rfl, hb1⟩
    have hb2 := hba.trans (hb1.mono hba.size)
    have b0 := cell_kept hb1 a0
    have b1 := cell_kept hb1 a1
    obtain ⟨HI⟩ : Nonempty (Hid (Below w.heap.size w w1 ∧ w1.cell? ⟨sz, 0, none⟩ = some (.int .i64 pa) ∧ w1.cell? ⟨sz, 1, none⟩ = some (.int .i64 pn))) := ⟨⟨hb2, b0, b1⟩⟩
    clear hb1 hb2 a0 a1 b0 b1 hba
    go_wp2_with fail
    go_loopw [4, 6, 7] (fun _ i _ wr => ∃ (j : Nat), i = .int .i64 j ∧ Hid ((∀ i (_ : i < j) (h : i < L.length), L[i].1 ≠ (pa, pn)) ∧ Below w1.heap.size w1 wr) ∧ j ≤ L.length) (fun _ i _ _ => L.length - (intOf i).toNat)
    case atStart => exact ⟨0, rfl, ⟨fun i h => by omega, Below.refl _ _⟩, Nat.zero_le _⟩
    case round =>
      obtain ⟨j, rfl, HK, hjl⟩ := hrel
      have hbw := HI.out.1.trans (HK.out.2.mono HI.out.1.size)
      have hwo : wr.heap[rb]? = some (rtabObj mo (.slice q L.length cap)) := by rw [hbw.block rb hrb]; exact HE.out.2.1
      obtain ⟨-, t1, tz⟩ := rtab_cells hwo
      have b0 := cell_kept HK.out.2 HI.out.2.1
      have b1 := cell_kept HK.out.2 HI.out.2.2
      by_cases hlt : j < L.length
      · have q3 : (j : Int) < L.length := by omega
        have hqe := HE.out.1.below hbw
        obtain ⟨b, o, rfl, d0, d1, -⟩ := hqe j hlt
        obtain ⟨⟨⟨x0, x1⟩, x2⟩, hx⟩ : ∃ x, Hid (L[j] = x) := ⟨_, show _ = _ from rfl⟩
        rw [hx.out] at d0 d1
        simp only at d0 d1
        by_cases heq : x0 = pa ∧ x1 = pn
        · obtain ⟨rfl, rfl⟩ := heq
          have hjp : L[j].1 = (x0, x1) := by rw [hx.out]
          have e1 : dropC L x0 x1 = 0 := by unfold dropC; rw [hr, if_pos rfl, if_pos ((hasL_iff _ _).2 ⟨_, List.getElem_mem hlt, hjp⟩)]
          have e2 : L.take j ++ L.drop (j + 1) = L' := by rw [← HL'.out]; unfold dropS; rw [e1, if_pos rfl, drop_at HT.out.2 hlt hjp]
          obtain rfl : 0 = res := by rw [← Hres.out, e1]; rfl
          obtain ⟨HL2⟩ : Nonempty (Hid (L.take j ++ L.drop (j + 1) = L')) := ⟨e2⟩
          obtain ⟨HQ⟩ : Nonempty (Hid (Below w.heap.size w wr ∧ Ents wr (some ⟨b, o, none⟩) L)) := ⟨⟨hbw, hqe⟩⟩
          clear e1 e2 hjp hbw hqe hwo
          go_wp2_with fail
          go_quiet (fail)
          have hbw2 : Below sz w (wr.drewN nq) := by rw [← hsz.out]; exact below_drewN HQ.out.1 _
          have hszw : sz ≤ (wr.drewN nq).heap.size := by rw [← hsz.out]; exact (below_drewN HQ.out.1 nq).size
          have hsa : Ents (wr.drewN nq) (some ⟨b, o, none⟩) (L.take j) := ents_take (HQ.out.2.below (below_drewN (Below.refl _ _) _)) j
          have hja : (L.take j).length = j := by simp; omega
          obtain ⟨O1, HO1⟩ : ∃ O', Hid ([] ++ L.take j = O') := ⟨_, show _ = _ from rfl⟩
          obtain ⟨HG⟩ : Nonempty (Hid (Ents (wr.drewN nq) (some ⟨b, o, none⟩) (L.take j) ∧ (L.take j).length = j)) := ⟨⟨hsa, hja⟩⟩
          clear hsa hja
          go_wp2_with (at_builtin; refine wp_addAll3 rfl _ _ 31 rfl sz 38 i0 Tryd.underlying31 hi hz0 hz1 hz2 _ [] rfl (World.ownsRow_nil _ _ _ _) (some ⟨b, o, none⟩) (L.take j) j cap rfl HG.out.2 (.inr ⟨_, _, rfl⟩) HG.out.1 O1 HO1 (by simp; omega) hszw ?_)
          rintro v2 w2 hown2 hb2
          have hbx := hbw2.trans hb2
          rw [← show w.heap.size = sz from hsz.out] at hbx
          have hwo2 : w2.heap[rb]? = some (rtabObj mo (.slice (some ⟨b, o, none⟩) L.length cap)) := by rw [hbx.block rb hrb]; exact HE.out.2.1
          have hdr : Hid (Ents w2 (some ⟨b, o + (j + 1) * 3, none⟩) (L.drop (j + 1)) ∧ Ents w2 (some ⟨b, o, none⟩) L) := ⟨ents_drop (HE.out.1.below hbx) (j + 1), HE.out.1.below hbx⟩
          obtain ⟨HX⟩ : Nonempty (Hid (Below w.heap.size w w2 ∧ w2.heap[rb]? = some (rtabObj mo (.slice (some ⟨b, o, none⟩) L.length cap)))) := ⟨⟨hbx, hwo2⟩⟩
          obtain ⟨-, t1, tz⟩ := rtab_cells hwo2
          have hszw2 : sz ≤ w2.heap.size := by rw [← hsz.out]; exact hbx.size
          obtain ⟨O2, HO2⟩ : ∃ O', Hid (O1 ++ L.drop (j + 1) = O') := ⟨_, show _ = _ from rfl⟩
          have hlen : L.length - (j + 1) = (L.drop (j + 1)).length := by simp
          have q4 : (j : Int) + 1 ≤ L.length := by omega
          have q5 : (L.length : Int) ≤ cap := by omega
          have hO1l : O1.length + (L.drop (j + 1)).length ≤ 1099511627776 := by rw [← HO1.out]; simp; omega
          obtain ⟨HLN⟩ : Nonempty (Hid ((L.drop (j + 1)).length = L.length - (j + 1) ∧ O1.length + (L.drop (j + 1)).length ≤ 1099511627776)) := ⟨⟨hlen.symm, hO1l⟩⟩
          clear hbw2 hszw hb2 hbx hwo2 HG b0 b1 d0 d1 hlen hO1l
          by_cases hce : cap = j + 1
          · have hnil : L.drop (j + 1) = [] := by apply List.drop_of_length_le; omega
            go_wp2_with (at_builtin; refine wp_addAll3 rfl _ _ 31 rfl sz 38 i0 Tryd.underlying31 hi hz0 hz1 hz2 _ O1 rfl hown2 _ (L.drop (j + 1)) _ _ rfl HLN.out.1 (.inr ⟨_, _, rfl⟩) (by rw [hnil]; exact ents_nil _ _) O2 HO2 HLN.out.2 hszw2 ?_)
            rintro v3 w3 hown3 hb3
            obtain ⟨q6, c6, rfl, -, -, -⟩ := own_ents hown3
            have hbz := HX.out.1.trans (show Below w.heap.size w2 w3 by rw [hsz.out]; exact hb3)
            have hwo3 : w3.heap[rb]? = some (rtabObj mo (.slice (some ⟨b, o, none⟩) L.length cap)) := by rw [hbz.block rb hrb]; exact HE.out.2.1
            obtain ⟨-, t3, tz3⟩ := rtab_cells hwo3
            rw [← show w.heap.size = sz from hsz.out] at hown3
            obtain ⟨HF⟩ : Nonempty (Hid (∃ G', _)) := ⟨rtab_new HE.out.2.1 HE.out.2.2.2 hbz hown3⟩
            have hLL : O2 = L' := by rw [← HO2.out, ← HO1.out]; exact HL2.out
            subst hLL
            clear hown3 hb3 hbz hwo3 hown2 t1 tz
            go_wp2_with fail
            go_ret
            exact ⟨rfl, HF.out⟩
          · go_wp2_with (at_builtin; refine wp_addAll3 rfl _ _ 31 rfl sz 38 i0 Tryd.underlying31 hi hz0 hz1 hz2 _ O1 rfl hown2 _ (L.drop (j + 1)) _ _ rfl HLN.out.1 (.inr ⟨_, _, rfl⟩) hdr.out.1 O2 HO2 HLN.out.2 hszw2 ?_)
            rintro v3 w3 hown3 hb3
            obtain ⟨q6, c6, rfl, -, -, -⟩ := own_ents hown3
            have hbz := HX.out.1.trans (show Below w.heap.size w2 w3 by rw [hsz.out]; exact hb3)
            have hwo3 : w3.heap[rb]? = some (rtabObj mo (.slice (some ⟨b, o, none⟩) L.length cap)) := by rw [hbz.block rb hrb]; exact HE.out.2.1
            obtain ⟨-, t3, tz3⟩ := rtab_cells hwo3
            rw [← show w.heap.size = sz from hsz.out] at hown3
            obtain ⟨HF⟩ : Nonempty (Hid (∃ G', _)) := ⟨rtab_new HE.out.2.1 HE.out.2.2.2 hbz hown3⟩
            have hLL : O2 = L' := by rw [← HO2.out, ← HO1.out]; exact HL2.out
            subst hLL
            clear hown3 hb3 hbz hwo3 hown2 t1 tz
            go_wp2_with fail
            go_ret
            exact ⟨rfl, HF.out⟩
        · obtain ⟨HN⟩ : Nonempty (Hid (∀ i (_ : i < j + 1) (h : i < L.length), L[i].1 ≠ (pa, pn))) := ⟨fun i hi h => by
            rcases Nat.lt_or_ge i j with h' | h'
            · exact HK.out.1 i h' h
            · obtain rfl : i = j := by omega
              rw [hx.out]; exact fun e => heq (by simpa using e)⟩
          clear hqe hbw hwo
          by_cases hx0 : x0 = pa
          · subst hx0
            have hx1 : ¬ x1 = pn := fun e => heq ⟨rfl, e⟩
            have hx1' : (x1 == pn) = false := by simpa using hx1
            clear heq
            go_wp2_with fail
            go_quiet (fail)
            go_wp2_with fail
            go_roundw
            case rel => first | exact ⟨j + 1, by go_num, ⟨HN.out, below_drewN HK.out.2 _⟩, by omega⟩ | ((repeat apply Exists.intro); exact ⟨⟨j + 1, by go_num, ⟨HN.out, below_drewN HK.out.2 _⟩, by omega⟩, rfl⟩)
            case measure => simp [intOf]; omega
          · have hx0' : (x0 == pa) = false := by simpa using hx0
            clear heq
            go_wp2_with fail
            go_quiet (fail)
            go_wp2_with fail
            go_roundw
            case rel => first | exact ⟨j + 1, by go_num, ⟨HN.out, below_drewN HK.out.2 _⟩, by omega⟩ | ((repeat apply Exists.intro); exact ⟨⟨j + 1, by go_num, ⟨HN.out, below_drewN HK.out.2 _⟩, by omega⟩, rfl⟩)
            case measure => simp [intOf]; omega
      · obtain rfl : j = L.length := by omega
        have hno : hasL L (pa, pn) = false := by
          rw [Bool.eq_false_iff]
          intro hh
          obtain ⟨x, hx, he⟩ := (hasL_iff _ _).1 hh
          obtain ⟨i, hi, rfl⟩ := List.getElem_of_mem hx
          exact HK.out.1 i hi hi he
        have e1 : dropC L pa pn = 5 := by unfold dropC; rw [hr, if_pos rfl, if_neg (by rw [hno]; simp)]
        have e2 : L = L' := by rw [← HL'.out]; unfold dropS; rw [e1, if_neg (by omega)]
        subst e2
        obtain rfl : 5 = res := by rw [← Hres.out, e1]; rfl
        obtain ⟨HQ⟩ : Nonempty (Hid (Below w.heap.size w wr)) := ⟨hbw⟩
        clear e1 hno hbw hwo
        go_wp2_with fail
        go_ret
        exact rpost_same HT.out.1 HQ.out
end Go.Proofs.YthehpnhjfnenoabDoor
