/-
  The document's Set.
-/
import Derived.Test.YthehpnhjfnenoabDoorRefPut
namespace Go.Proofs.YthehpnhjfnenoabDoor
open Go.RowKit

theorem rPut_any (rb : Nat) (L : List Ent) (mo pa pn hop : Int) (G : List Nat) (w : World) (h : RTab w rb L mo G) (hs : Srt L) (hl : L.length ≤ 1000000) :
    Calls Tryd.prog 28 #[.pointer (some ⟨rb, 0, none⟩), .agg #[.int .i64 pa, .int .i64 pn], .int .i64 hop] w (RPost mo G rb (putC L mo pa pn) (putS L mo pa pn hop) w) := by
  have hh := h
  obtain ⟨v, h1, h2, h3, h4⟩ := h
  have hG : rb ∈ G := by rw [← h4]; simp
  rcases h2.2 with ⟨rfl, h0⟩ | ⟨g, cap, cur, rfl, -, -, hc1, hc2, -, -⟩
  · obtain rfl : L = [] := List.eq_nil_of_length_eq_zero h0
    exact rPut_nil rb mo pa pn hop G w hh h1 hG
  · obtain ⟨q, c, e, -, -, hq⟩ := own_ents h2
    simp only [Value.slice.injEq, true_and] at e
    obtain ⟨rfl, rfl⟩ := e
    exact rPut_row rb L g cap mo pa pn hop G w hh h1 hs hl hc1 hc2 hq hG
theorem rFine_any' (w : World) : Calls Tryd.prog 54 #[] w fun r w' => r = .returned (.agg #[.int .i64 0, .int .i64 (-1)]) ∧ Below w.heap.size w w' := by
  go_enter Tryd.func54, Tryd.ntmps54
  go_wp2
  first
    | exact bodyPost_ret (v := .agg #[.int .i64 0, .int .i64 (-1)]) (by simp [results, Tryd.results54, go_sem]) rfl ⟨rfl, below_alloc _ _⟩
    | exact bodyPost_ret (v := .agg #[.int .i64 0, .int .i64 (-1)]) (by simp [results, Tryd.results54, go_sem]) rfl ⟨rfl, (((below_alloc _ _).setCell (Nat.le_refl _) _).setCell (Nat.le_refl _) _)⟩
theorem acc_mem {mo : Int} {l : List Ent} : ∀ {k : Nat}, k ≤ l.length → okAt mo l k → Srt (accL l k) ∧ (∀ x, x ∈ accL l k ↔ x ∈ l.take k) ∧ (accL l k).length ≤ k := by
  intro k
  induction k with
  | zero => intro _ _; exact ⟨srt_nil, fun x => by simp [accL], by simp [accL]⟩
  | succ k ih =>
    intro hk ho
    have hk' : k < l.length := by omega
    obtain ⟨h1, h2, h3⟩ := ih (by omega) (fun i hi h => ho i hi (by omega))
    have h0 := ho k hk' (by omega)
    have hno : hasL (accL l k) l[k].1 = false := by
      rw [Bool.eq_false_iff]
      intro hh
      unfold addC at h0
      cases hr : rt l[k].1.1 l[k].1.2 with
      | true => rw [hr, if_pos rfl, if_pos (show hasL (accL l k) (l[k].1.1, l[k].1.2) = true from hh)] at h0; cases h0
      | false => rw [hr, if_neg (by simp)] at h0; exact chkC_ne hr h0
    rw [accL_succ hk']
    refine ⟨put_srt h1 _, fun x => ?_, ?_⟩
    · rw [put_mem h1, h2 x, List.take_succ_eq_append_getElem hk', List.mem_append, List.mem_singleton]
      constructor
      · rintro (rfl | ⟨a, -⟩)
        · exact .inr rfl
        · exact .inl a
      · rintro (a | rfl)
        · exact .inr ⟨a, hasL_not hno x ((h2 x).2 a)⟩
        · exact .inl rfl
    · rw [put_length h1, hno]; simp; omega
theorem acc_has {mo : Int} {l : List Ent} {k : Nat} (hk : k ≤ l.length) (h : okAt mo l k) (p : Int × Int) : hasL (accL l k) p = true ↔ ∃ j, ∃ h : j < l.length, j < k ∧ l[j].1 = p := by
  rw [hasL_iff]
  constructor
  · rintro ⟨x, hx, e⟩
    obtain ⟨j, hj, rfl⟩ := List.getElem_of_mem (((acc_mem hk h).2.1 x).1 hx)
    rw [List.getElem_take] at e
    simp at hj
    exact ⟨j, by omega, by omega, e⟩
  · rintro ⟨j, hj, hjk, e⟩
    refine ⟨l[j], ((acc_mem hk h).2.1 _).2 ?_, e⟩
    exact List.mem_take_iff_getElem.2 ⟨j, by omega, rfl⟩
/-- what Set of the document's table hands back. -/
def RSetPost (mo : Int) (G : List Nat) (rb : Nat) (l : List Ent) (w : World) (r : Ending) (w' : World) : Prop :=
  (okAt mo l l.length ∧ r = .returned (.agg #[.int .i64 0, .int .i64 (-1)]) ∧ ∃ G', RTab w' rb (accL l l.length) mo G' ∧ (∀ b ∈ G', b ∈ G ∨ w.heap.size ≤ b) ∧ Kept G w w') ∨
  (∃ (i : Nat) (hi : i < l.length) (k : Nat), okAt mo l i ∧ addC (accL l i) mo l[i].1.1 l[i].1.2 = k + 1 ∧ r = .returned (.agg #[.int .i64 ((k : Int) + 1), .int .i64 i]) ∧ Below w.heap.size w w')
/-- the state of its loop. -/
structure RS (B : Nat) (w wr : World) (xb : Nat) (M : List Ent) (mo : Int) (G : List Nat) : Prop where
  tab : RTab wr xb M mo G
  own : ∀ b ∈ G, B < b
  below : Below B w wr
  box : wr.heap[B]? = some (.cells #[.int .i64 0, .int .i64 0] 63 (0, 0))
theorem RS.all {B : Nat} {w wr w' : World} {xb : Nat} {M : List Ent} {mo : Int} {G : List Nat} (h : RS B w wr xb M mo G) (hb : Below wr.heap.size wr w') : RS B w w' xb M mo G := by
  have hB : B < wr.heap.size := (Array.getElem?_eq_some_iff.1 h.box).1
  exact ⟨h.tab.below hb, h.own, h.below.trans (hb.mono (by omega)), by rw [hb.block B hB]; exact h.box⟩
theorem RS.put {B : Nat} {w wr w' : World} {xb : Nat} {M M' : List Ent} {mo c : Int} {G : List Nat} {r : Ending} (h : RS B w wr xb M mo G) (hp : RPost mo G xb c M' wr r w') : r = .returned (.int .i64 c) ∧ ∃ G', RS B w w' xb M' mo G' := by
  have hB : B < wr.heap.size := (Array.getElem?_eq_some_iff.1 h.box).1
  obtain ⟨e, G', h1, h2, h3⟩ := hp
  refine ⟨e, G', h1, fun b hb => ?_, h.below.trans (h3.below (by omega) (fun x hx => by have := h.own x hx; omega)), h3.heap h.box (fun hm => by have := h.own B hm; omega)⟩
  rcases h2 b hb with h' | h'
  · exact h.own b h'
  · omega
theorem RS.end {B : Nat} {w wr : World} {xb rb : Nat} {L M : List Ent} {mo : Int} {G F : List Nat} (h : RS B w wr xb M mo G) (hB : w.heap.size = B) (ht : RTab w rb L mo F) :
    ∃ v q, wr.cell? ⟨xb, 1, none⟩ = some v ∧ wr.cell? ⟨rb, 1, none⟩ = some q ∧ (∀ k, wr.frozen? ⟨rb, k, none⟩ = false) ∧ (∃ p n c, v = .slice p n c) ∧ rb ≠ B ∧
      ∃ G', RTab (wr.setCell ⟨rb, 1, none⟩ v) rb M mo G' ∧ (∀ b ∈ G', b ∈ F ∨ w.heap.size ≤ b) ∧ Kept F w (wr.setCell ⟨rb, 1, none⟩ v) ∧ ∀ b ∈ G', b ≠ B := by
  obtain ⟨v, h1, h2, h3, h4⟩ := h.tab
  obtain ⟨q, g1, g2, g3, g4⟩ := ht
  have hrb := (Array.getElem?_eq_some_iff.1 g1).1
  have ho : wr.heap[rb]? = some (rtabObj mo q) := by rw [h.below.block rb (by omega)]; exact g1
  obtain ⟨p, c, hv, -, -, -⟩ := own_ents h2
  have hrF : rb ∈ F := by rw [← g4]; simp
  have hge : ∀ g, v.ownBlock = some g → B < g := fun g hg => h.own g (by rw [← h4]; simp [hg])
  refine ⟨v, q, (rtab_cells h1).2.1, (rtab_cells ho).2.1, (rtab_cells ho).2.2, ⟨p, _, c, hv⟩, by omega, rb :: v.ownBlock.toList, ⟨v, node_set ho 1 _, own_same h2 (fun g hg => ?_), fun e => ?_, rfl⟩, fun b hb => ?_, (Kept.of_below (by rw [hB]; exact h.below)).setCell (.inl hrF) _, fun b hb => ?_⟩
  · have := hge g hg
    exact heap_far _ _ _ _ _ (by omega)
  · have := hge rb e; omega
  · rcases List.mem_cons.1 hb with rfl | hb
    · exact .inl hrF
    · have := hge b (by simpa using hb); exact .inr (by omega)
  · rcases List.mem_cons.1 hb with rfl | hb
    · omega
    · have := hge b (by simpa using hb); omega

set_option linter.unusedVariables false in
set_option linter.unusedSimpArgs false in
set_option maxRecDepth 100000 in
set_option maxHeartbeats 2000000 in
theorem rSet_any (rb : Nat) (L l : List Ent) (mo : Int) (F : List Nat) (p : Option Addr) (cap : Nat) (w : World) (h : RTab w rb L mo F) (hl : Ents w p l) (hm0 : 0 ≤ mo) (hm1 : mo ≤ 60) (hlen : l.length ≤ 1000) :
    Calls Tryd.prog 32 #[.pointer (some ⟨rb, 0, none⟩), .slice p l.length cap] w (RSetPost mo F rb l w) := by
  obtain ⟨HT⟩ : Nonempty (Hid (RTab w rb L mo F ∧ Ents w p l)) := ⟨⟨h, hl⟩⟩
  obtain ⟨t0, hrb⟩ : w.cell? ⟨rb, 0, none⟩ = some (.int .i64 mo) ∧ rb < w.heap.size := by
    obtain ⟨v, g1, -, -, -⟩ := h
    exact ⟨(rtab_cells g1).1, (Array.getElem?_eq_some_iff.1 g1).1⟩
  have hrow := Go.heap_alloc_new w (.cells #[.int .i64 0, .int .i64 0] 63)
  have hba := below_alloc w (.cells #[.int .i64 0, .int .i64 0] 63)
  obtain ⟨W, hW⟩ : ∃ X, Hid (w.alloc (.cells #[.int .i64 0, .int .i64 0] 63) = X) := ⟨_, show _ = _ from rfl⟩
  obtain ⟨B, hB⟩ : ∃ b, Hid (w.heap.size = b) := ⟨_, show _ = _ from rfl⟩
  rw [show w.alloc (.cells #[.int .i64 0, .int .i64 0] 63) = W from hW.out] at hrow hba
  rw [show w.heap.size = B from hB.out] at hrow
  replace t0 := cell_kept hba t0
  obtain ⟨HC⟩ : Nonempty (Hid (Calls _ _ _ _ _)) := ⟨rNew_any mo mo (show min (max mo 0) 60 = mo by omega) W⟩
  clear h hl
  go_enter Tryd.func32, Tryd.ntmps32
  go_upto_region 1 with fail
  rw [show w.alloc (.cells #[.int .i64 0, .int .i64 0] 63) = W from hW.out, show w.heap.size = B from hB.out]
  go_wp2_with fail
  refine HC.out.mono ?_
  clear HC
  rintro e w1 ⟨rfl, it, hb1⟩
  have hBW : B < W.heap.size := (Array.getElem?_eq_some_iff.1 hrow).1
  obtain ⟨xb, hxb⟩ : ∃ b, Hid (W.heap.size = b) := ⟨_, show _ = _ from rfl⟩
  rw [show W.heap.size = xb from hxb.out] at it hBW ⊢
  obtain ⟨HS⟩ : Nonempty (Hid (RS B w w1 xb [] mo [xb])) := ⟨⟨it, by simpa using hBW, by rw [← hB.out]; exact hba.trans (hb1.mono hba.size), by rw [hb1.block B (by rw [hxb.out]; exact hBW)]; exact hrow⟩⟩
  clear it hb1 hrow hba t0 hBW
  go_wp2_with fail
  go_loopw [6, 7, 8] (fun i _ _ wr => ∃ (k : Nat) (M : List Ent) (G : List Nat), i = .int .i64 k ∧ Hid (okAt mo l k ∧ accL l k = M ∧ RS B w wr xb M mo G) ∧ k ≤ l.length) (fun i _ _ _ => l.length - (intOf i).toNat)
  case atStart => exact ⟨0, [], [xb], rfl, ⟨fun i _ h => by omega, rfl, HS.out⟩, Nat.zero_le _⟩
  case round =>
    obtain ⟨k, M, G, rfl, HK, hkl⟩ := hrel
    clear HS
    by_cases hlt : k < l.length
    · as_aux_lemma =>
      have q3 : (k : Int) < l.length := by omega
      obtain ⟨b, o, rfl, c0, c1, c2⟩ := HT.out.2 k hlt
      obtain ⟨⟨⟨x0, x1⟩, x2⟩, hx⟩ : ∃ x, Hid (l[k] = x) := ⟨_, show _ = _ from rfl⟩
      rw [hx.out] at c0 c1 c2
      simp only at c0 c1 c2
      obtain ⟨HE⟩ : Nonempty (Hid (∀ w', Below B w w' → w'.cell? ⟨b, o + k * 3, none⟩ = some (.int .i64 x0) ∧ w'.cell? ⟨b, o + k * 3 + 1, none⟩ = some (.int .i64 x1) ∧ w'.cell? ⟨b, o + k * 3 + 2, none⟩ = some (.int .i64 x2))) := ⟨fun w' hb => by
        rw [← show w.heap.size = B from hB.out] at hb
        exact ⟨cell_kept hb c0, cell_kept hb c1, cell_kept hb c2⟩⟩
      obtain ⟨HF⟩ : Nonempty (Hid (∀ (c : Nat) (ww : World) (G' : List Nat) (M' : List Ent), addC M mo x0 x1 = c + 1 → RS B w ww xb M' mo G' → RSetPost mo F rb l w (.returned (.agg #[.int .i64 ((c : Int) + 1), .int .i64 k])) ((ww.setCell ⟨B, 0, none⟩ (.int .i64 ((c : Int) + 1))).setCell ⟨B, 1, none⟩ (.int .i64 k)))) := ⟨fun c ww G' M' hc hrs => .inr ⟨k, hlt, c, HK.out.1, by rw [HK.out.2.1, hx.out]; exact hc, rfl, by rw [hB.out]; exact (hrs.below.setCell (Nat.le_refl _) _).setCell (Nat.le_refl _) _⟩⟩
      clear c0 c1 c2
      obtain ⟨c0, c1, c2⟩ := HE.out _ HK.out.2.2.below
      obtain ⟨cc, hcc⟩ : ∃ c : Int, Hid ((chkC x0 x1 : Int) = c) := ⟨_, show _ = _ from rfl⟩
      obtain ⟨HC⟩ : Nonempty (Hid (Calls _ _ _ _ _)) := ⟨rPrefixError_at x0 x1 cc hcc wr⟩
      cases hr : rt x0 x1 with
      | false =>
        obtain ⟨c, hc⟩ : ∃ c, chkC x0 x1 = c + 1 := ⟨chkC x0 x1 - 1, by have := chkC_ne hr; omega⟩
        have hadd : addC M mo x0 x1 = c + 1 := by unfold addC; rw [hr, if_neg (by simp), hc]
        obtain rfl : (c : Int) + 1 = cc := by rw [← hcc.out, hc]; simp
        have hcp : (((c : Int) + 1) == 0) = false := by rw [beq_eq_false_iff_ne]; omega
        have hcq : 0 < (c : Int) + 1 := by omega
        go_wp2_with fail
        refine HC.out.mono ?_
        clear HC
        rintro e w2 ⟨rfl, hb2⟩
        obtain ⟨HR⟩ : Nonempty (Hid (RS B w w2 xb M mo G)) := ⟨HK.out.2.2.all hb2⟩
        have hbx := (pre_cells HR.out.box)
        obtain ⟨bx0, bx1, bf0, bf1⟩ := hbx
        clear hb2 c0 c1 c2 hr hc
        go_wp2_with fail
        refine wp_loop_rounds 1 ?_
        rw [rounds_succ]
        go_wp2_with fail
        all_goals
          exact bodyPost_ret (v := .agg #[.int .i64 ((c : Int) + 1), .int .i64 k]) (by simp [results, Tryd.results32, go_sem, bx0, bx1]) rfl (HF.out c w2 G M hadd HR.out)
      | true =>
        obtain rfl : 0 = cc := by rw [← hcc.out, chkC_rt x0 x1 hr]; rfl
        go_wp2_with fail
        refine HC.out.mono ?_
        clear HC
        rintro e w2 ⟨rfl, hb2⟩
        obtain ⟨HR⟩ : Nonempty (Hid (RS B w w2 xb M mo G)) := ⟨HK.out.2.2.all hb2⟩
        clear hb2 c0 c1 c2
        go_wp2_with fail
        go_loopw [7, 8] (fun e j wr => ∃ (ee : Int) (m : Nat), e = .int .i64 ee ∧ j = .int .i64 m ∧ Hid (((ee = 0 ∧ ∀ i (_ : i < m) (h : i < l.length), l[i].1 ≠ (x0, x1)) ∨ (ee = 6 ∧ ∃ i, ∃ h : i < l.length, i < k ∧ l[i].1 = (x0, x1))) ∧ Below w2.heap.size w2 wr) ∧ m ≤ k) (fun _ j _ => k - (intOf j).toNat)
        case atStart => exact ⟨0, 0, rfl, rfl, ⟨.inl ⟨rfl, fun i h => by omega⟩, Below.refl _ _⟩, Nat.zero_le _⟩
        case round =>
          obtain ⟨ee, m, rfl, rfl, HM, hmk⟩ := hrel
          obtain ⟨HR3⟩ : Nonempty (Hid (RS B w wr xb M mo G)) := ⟨HR.out.all HM.out.2⟩
          obtain ⟨c0, c1, c2⟩ := HE.out _ HR3.out.below
          rcases HM.out.1 with ⟨rfl, hno⟩ | ⟨rfl, hdup⟩
          · by_cases hlm : m < k
            · as_aux_lemma =>
              have q4 : (m : Int) < k := by omega
              have q5 : (m : Int) < l.length := by omega
              obtain ⟨b', o', he, d0, d1, d2⟩ := HT.out.2 m (by omega)
              simp only [Option.some.injEq, Addr.mk.injEq, and_true] at he
              obtain ⟨rfl, rfl⟩ := he
              have hbw := HR3.out.below
              rw [← show w.heap.size = B from hB.out] at hbw
              replace d0 := cell_kept hbw d0
              replace d1 := cell_kept hbw d1
              obtain ⟨⟨y0, y1⟩, hy⟩ : ∃ x, Hid (l[m].1 = x) := ⟨_, show _ = _ from rfl⟩
              rw [hy.out] at d0 d1
              simp only at d0 d1
              clear d2 hbw
              by_cases heq : y0 = x0 ∧ y1 = x1
              · obtain ⟨rfl, rfl⟩ := heq
                obtain ⟨HD⟩ : Nonempty (Hid (∃ i, ∃ h : i < l.length, i < k ∧ l[i].1 = (y0, y1))) := ⟨⟨m, by omega, hlm, hy.out⟩⟩
                clear hno
                go_wp2_with fail
                go_quiet (fail)
                go_wp2_with fail
                go_roundw
                case rel => first | exact ⟨6, m + 1, rfl, by go_num, ⟨.inr ⟨rfl, HD.out⟩, below_drewN HM.out.2 _⟩, by omega⟩ | ((repeat apply Exists.intro); exact ⟨⟨6, m + 1, rfl, by go_num, ⟨.inr ⟨rfl, HD.out⟩, below_drewN HM.out.2 _⟩, by omega⟩, rfl⟩)
                case measure => simp [intOf]; omega
              · obtain ⟨HN⟩ : Nonempty (Hid (∀ i (_ : i < m + 1) (h : i < l.length), l[i].1 ≠ (x0, x1))) := ⟨fun i hi h => by
                  rcases Nat.lt_or_ge i m with h' | h'
                  · exact hno i h' h
                  · obtain rfl : i = m := by omega
                    rw [hy.out]; exact fun e => heq (by simpa using e)⟩
                clear hno
                by_cases hy0 : y0 = x0
                · subst hy0
                  have hy1 : ¬ y1 = x1 := fun e => heq ⟨rfl, e⟩
                  have hy1' : (y1 == x1) = false := by simpa using hy1
                  clear heq
                  go_wp2_with fail
                  go_quiet (fail)
                  go_wp2_with fail
                  go_roundw
                  case rel => first | exact ⟨0, m + 1, rfl, by go_num, ⟨.inl ⟨rfl, HN.out⟩, below_drewN HM.out.2 _⟩, by omega⟩ | ((repeat apply Exists.intro); exact ⟨⟨0, m + 1, rfl, by go_num, ⟨.inl ⟨rfl, HN.out⟩, below_drewN HM.out.2 _⟩, by omega⟩, rfl⟩)
                  case measure => simp [intOf]; omega
                · have hy0' : (y0 == x0) = false := by simpa using hy0
                  clear heq
                  go_wp2_with fail
                  go_quiet (fail)
                  go_wp2_with fail
                  go_roundw
                  case rel => first | exact ⟨0, m + 1, rfl, by go_num, ⟨.inl ⟨rfl, HN.out⟩, below_drewN HM.out.2 _⟩, by omega⟩ | ((repeat apply Exists.intro); exact ⟨⟨0, m + 1, rfl, by go_num, ⟨.inl ⟨rfl, HN.out⟩, below_drewN HM.out.2 _⟩, by omega⟩, rfl⟩)
                  case measure => simp [intOf]; omega
            · as_aux_lemma =>
              obtain rfl : m = k := by omega
              have hnoL : hasL M (x0, x1) = false := by
                rw [Bool.eq_false_iff]; intro hh
                rw [← HK.out.2.1, acc_has hkl HK.out.1] at hh
                obtain ⟨j, hj, hjk, e⟩ := hh
                exact hno j hjk hj e
              have haddp : addC M mo x0 x1 = putC M mo x0 x1 := by
                unfold addC putC
                rw [hr, if_pos rfl, if_pos rfl, if_neg (by rw [hnoL]; simp)]
                by_cases hmm : mo ≤ (M.length : Int)
                · rw [if_pos hmm, if_pos ⟨hnoL, hmm⟩]
                · rw [if_neg hmm, if_neg (fun h => hmm h.2)]
              have hsM : Srt M ∧ M.length ≤ 1000000 := by have := acc_mem hkl HK.out.1; rw [HK.out.2.1] at this; exact ⟨this.1, by omega⟩
              clear hno hlm hmk
              obtain ⟨HRd⟩ : Nonempty (Hid (RS B w wr.drew xb M mo G)) := ⟨HR3.out.all (Below.refl _ _).drew⟩
              obtain ⟨HC⟩ : Nonempty (Hid (Calls _ _ _ _ _)) := ⟨rPut_any xb M mo x0 x1 x2 G wr.drew HRd.out.tab hsM.1 hsM.2⟩
              obtain ⟨HSM⟩ : Nonempty (Hid (Srt M ∧ hasL M (x0, x1) = false)) := ⟨⟨hsM.1, hnoL⟩⟩
              clear hsM hnoL
              cases hcode : addC M mo x0 x1 with
              | zero =>
                have hS : putS M mo x0 x1 x2 = putL M ((x0, x1), x2) := by unfold putS; rw [← haddp, hcode, if_pos rfl]
                rw [← haddp, hcode, hS] at HC
                rw [show ((0 : Nat) : Int) = 0 from rfl] at HC
                obtain ⟨HN⟩ : Nonempty (Hid (okAt mo l (m + 1) ∧ accL l (m + 1) = putL M ((x0, x1), x2))) := ⟨⟨okAt_succ HK.out.1 hlt (by rw [HK.out.2.1, hx.out]; exact hcode), by rw [accL_succ hlt, HK.out.2.1, hx.out]⟩⟩
                clear hcode hS haddp
                go_wp2_with fail
                refine wp_region_noPanic ?_
                refine wp_region_held_drew (S := (fun w' => w'.cell? ⟨b, o + m * 3, none⟩ = some (.int .i64 x0) ∧ w'.cell? ⟨b, o + m * 3 + 1, none⟩ = some (.int .i64 x1) ∧ w'.cell? ⟨b, o + m * 3 + 2, none⟩ = some (.int .i64 x2))) (by kernel_rfl) ?_ (fun hHeld => ?_)
                · exact HE.out _ HRd.out.below
                refine wpAnyH_take (i := 0) (v := ?_) rfl (by kernel_rfl) (by kernel_rfl) (by kernel_rfl) (fun _ _ _ h => h) (Or.inl ⟨by rfl, ?_⟩) (by assumption) ?_
                rotate_left
                · (intro w hSw; (try dsimp only at hSw); go_simp; try (with_reducible rfl))
                try simp only [Act.put, List.setIfInBounds_toArray, List.set_cons_zero, List.set_cons_succ, List.getElem_toArray, List.getElem_cons_zero, List.getElem_cons_succ]
                refine wpAnyH_take (i := 1) (v := ?_) rfl (by kernel_rfl) (by kernel_rfl) (by kernel_rfl) (fun _ _ _ h => h) (Or.inl ⟨by rfl, ?_⟩) (by assumption) ?_
                rotate_left
                · (intro w hSw; (try dsimp only at hSw); go_simp; try (with_reducible rfl))
                try simp only [Act.put, List.setIfInBounds_toArray, List.set_cons_zero, List.set_cons_succ, List.getElem_toArray, List.getElem_cons_zero, List.getElem_cons_succ]
                refine wpAnyH_take (i := 2) (v := ?_) rfl (by kernel_rfl) (by kernel_rfl) (by kernel_rfl) (fun _ _ _ h => h) (Or.inl ⟨by rfl, ?_⟩) (by assumption) ?_
                rotate_left
                · (intro w hSw; (try dsimp only at hSw); go_simp; try (with_reducible rfl))
                try simp only [Act.put, List.setIfInBounds_toArray, List.set_cons_zero, List.set_cons_succ, List.getElem_toArray, List.getElem_cons_zero, List.getElem_cons_succ]
                refine wpAnyH_take (i := 3) (v := ?_) rfl (by kernel_rfl) (by kernel_rfl) (by kernel_rfl) (fun _ _ _ h => h) (Or.inl ⟨by rfl, ?_⟩) (by assumption) ?_
                rotate_left
                · (intro w hSw; (try dsimp only at hSw); go_simp; try (with_reducible rfl))
                try simp only [Act.put, List.setIfInBounds_toArray, List.set_cons_zero, List.set_cons_succ, List.getElem_toArray, List.getElem_cons_zero, List.getElem_cons_succ]
                refine wpAnyH_take (i := 4) (v := ?_) rfl (by kernel_rfl) (by kernel_rfl) (by kernel_rfl) (fun _ _ _ h => h) (Or.inl ⟨by rfl, ?_⟩) (by assumption) ?_
                rotate_left
                · (intro w hSw; (try dsimp only at hSw); go_simp; try (with_reducible rfl))
                try simp only [Act.put, List.setIfInBounds_toArray, List.set_cons_zero, List.set_cons_succ, List.getElem_toArray, List.getElem_cons_zero, List.getElem_cons_succ]
                refine wpAnyH_take (i := 5) (v := ?_) rfl (by kernel_rfl) (by kernel_rfl) (by kernel_rfl) (fun _ _ _ h => h) (Or.inl ⟨by rfl, ?_⟩) (by assumption) ?_
                rotate_left
                · (intro w hSw; (try dsimp only at hSw); go_simp; try (with_reducible rfl))
                try simp only [Act.put, List.setIfInBounds_toArray, List.set_cons_zero, List.set_cons_succ, List.getElem_toArray, List.getElem_cons_zero, List.getElem_cons_succ]
                refine wpAnyH_take (i := 6) (v := ?_) rfl (by kernel_rfl) (by kernel_rfl) (by kernel_rfl) (fun _ _ _ h => h) (Or.inl ⟨by rfl, ?_⟩) (by assumption) ?_
                rotate_left
                · (intro w hSw; (try dsimp only at hSw); go_simp; try (with_reducible rfl))
                try simp only [Act.put, List.setIfInBounds_toArray, List.set_cons_zero, List.set_cons_succ, List.getElem_toArray, List.getElem_cons_zero, List.getElem_cons_succ]
                refine wpAnyH_take (i := 7) (v := ?_) rfl (by kernel_rfl) (by kernel_rfl) (by kernel_rfl) (fun _ _ _ h => h) (Or.inl ⟨by rfl, ?_⟩) (by assumption) ?_
                rotate_left
                · (intro w hSw; (try dsimp only at hSw); go_simp; try (with_reducible rfl))
                try simp only [Act.put, List.setIfInBounds_toArray, List.set_cons_zero, List.set_cons_succ, List.getElem_toArray, List.getElem_cons_zero, List.getElem_cons_succ]
                refine wpAnyH_take (i := 8) (v := ?_) rfl (by kernel_rfl) (by kernel_rfl) (by kernel_rfl) (fun _ _ _ h => h) (Or.inl ⟨by rfl, ?_⟩) (by assumption) ?_
                rotate_left
                · (intro w hSw; (try dsimp only at hSw); go_simp; try (with_reducible rfl))
                try simp only [Act.put, List.setIfInBounds_toArray, List.set_cons_zero, List.set_cons_succ, List.getElem_toArray, List.getElem_cons_zero, List.getElem_cons_succ]
                refine wpAnyH_take (i := 9) (v := ?_) rfl (by kernel_rfl) (by kernel_rfl) (by kernel_rfl) (fun _ _ _ h => h) (Or.inl ⟨by rfl, ?_⟩) (by assumption) ?_
                rotate_left
                · (intro w hSw; (try dsimp only at hSw); go_simp; try (with_reducible rfl))
                try simp only [Act.put, List.setIfInBounds_toArray, List.set_cons_zero, List.set_cons_succ, List.getElem_toArray, List.getElem_cons_zero, List.getElem_cons_succ]
                refine wpAnyH_take (i := 10) (v := ?_) rfl (by kernel_rfl) (by kernel_rfl) (by kernel_rfl) (fun _ _ _ h => h) (Or.inl ⟨by rfl, ?_⟩) (by assumption) ?_
                rotate_left
                · (intro w hSw; (try dsimp only at hSw); go_simp; try (with_reducible rfl))
                try simp only [Act.put, List.setIfInBounds_toArray, List.set_cons_zero, List.set_cons_succ, List.getElem_toArray, List.getElem_cons_zero, List.getElem_cons_succ]
                refine wpAnyH_ready (rs := [11]) (by kernel_rfl) (by simp) ?_
                refine AllReadyH.cons rfl (fun K hK => ?_) AllReadyH.nil
                go_simp
                refine HC.out.mono ?_
                clear HC
                intro e w5 hp
                obtain ⟨rfl, G', hrs⟩ := HRd.out.put hp
                obtain ⟨HP⟩ : Nonempty (Hid (RS B w w5 xb _ mo G')) := ⟨hrs⟩
                clear hrs hp
                refine hK.out _ _ ?_ (fun hHeld => ?_)
                · exact HE.out _ HP.out.below
                clear hK K
                try simp only [Act.put, List.setIfInBounds_toArray, List.set_cons_zero, List.set_cons_succ, List.getElem_toArray, List.getElem_cons_zero, List.getElem_cons_succ]
                refine wpAnyH_take (i := 12) (v := ?_) rfl (by kernel_rfl) (by kernel_rfl) (by kernel_rfl) (fun _ _ _ h => h) (Or.inl ⟨by rfl, ?_⟩) (by assumption) ?_
                rotate_left
                · (intro w hSw; (try dsimp only at hSw); go_simp; try (with_reducible rfl))
                try simp only [Act.put, List.setIfInBounds_toArray, List.set_cons_zero, List.set_cons_succ, List.getElem_toArray, List.getElem_cons_zero, List.getElem_cons_succ]
                refine wpAnyH_done (by kernel_rfl) ?_ _
                refine NoPanic.normal ?_
                clear hHeld c0 c1 c2
                go_wp2_with fail
                go_roundw
                case rel => first | exact ⟨m + 1, _, G', by go_num, ⟨HN.out.1, HN.out.2, HP.out⟩, by omega⟩ | ((repeat apply Exists.intro); exact ⟨⟨m + 1, _, G', by go_num, ⟨HN.out.1, HN.out.2, HP.out⟩, by omega⟩, rfl⟩)
                case measure => simp [intOf]; omega
              | succ c =>
                have hcp : 0 < (c : Int) + 1 := by omega
                rw [← haddp, hcode] at HC
                rw [show ((c + 1 : Nat) : Int) = (c : Int) + 1 by simp] at HC
                obtain ⟨HAD⟩ : Nonempty (Hid (addC M mo x0 x1 = c + 1)) := ⟨hcode⟩
                clear hcode haddp
                go_wp2_with fail
                refine wp_region_noPanic ?_
                refine wp_region_held_drew (S := (fun w' => w'.cell? ⟨b, o + m * 3, none⟩ = some (.int .i64 x0) ∧ w'.cell? ⟨b, o + m * 3 + 1, none⟩ = some (.int .i64 x1) ∧ w'.cell? ⟨b, o + m * 3 + 2, none⟩ = some (.int .i64 x2))) (by kernel_rfl) ?_ (fun hHeld => ?_)
                · exact HE.out _ HRd.out.below
                refine wpAnyH_take (i := 0) (v := ?_) rfl (by kernel_rfl) (by kernel_rfl) (by kernel_rfl) (fun _ _ _ h => h) (Or.inl ⟨by rfl, ?_⟩) (by assumption) ?_
                rotate_left
                · (intro w hSw; (try dsimp only at hSw); go_simp; try (with_reducible rfl))
                try simp only [Act.put, List.setIfInBounds_toArray, List.set_cons_zero, List.set_cons_succ, List.getElem_toArray, List.getElem_cons_zero, List.getElem_cons_succ]
                refine wpAnyH_take (i := 1) (v := ?_) rfl (by kernel_rfl) (by kernel_rfl) (by kernel_rfl) (fun _ _ _ h => h) (Or.inl ⟨by rfl, ?_⟩) (by assumption) ?_
                rotate_left
                · (intro w hSw; (try dsimp only at hSw); go_simp; try (with_reducible rfl))
                try simp only [Act.put, List.setIfInBounds_toArray, List.set_cons_zero, List.set_cons_succ, List.getElem_toArray, List.getElem_cons_zero, List.getElem_cons_succ]
                refine wpAnyH_take (i := 2) (v := ?_) rfl (by kernel_rfl) (by kernel_rfl) (by kernel_rfl) (fun _ _ _ h => h) (Or.inl ⟨by rfl, ?_⟩) (by assumption) ?_
                rotate_left
                · (intro w hSw; (try dsimp only at hSw); go_simp; try (with_reducible rfl))
                try simp only [Act.put, List.setIfInBounds_toArray, List.set_cons_zero, List.set_cons_succ, List.getElem_toArray, List.getElem_cons_zero, List.getElem_cons_succ]
                refine wpAnyH_take (i := 3) (v := ?_) rfl (by kernel_rfl) (by kernel_rfl) (by kernel_rfl) (fun _ _ _ h => h) (Or.inl ⟨by rfl, ?_⟩) (by assumption) ?_
                rotate_left
                · (intro w hSw; (try dsimp only at hSw); go_simp; try (with_reducible rfl))
                try simp only [Act.put, List.setIfInBounds_toArray, List.set_cons_zero, List.set_cons_succ, List.getElem_toArray, List.getElem_cons_zero, List.getElem_cons_succ]
                refine wpAnyH_take (i := 4) (v := ?_) rfl (by kernel_rfl) (by kernel_rfl) (by kernel_rfl) (fun _ _ _ h => h) (Or.inl ⟨by rfl, ?_⟩) (by assumption) ?_
                rotate_left
                · (intro w hSw; (try dsimp only at hSw); go_simp; try (with_reducible rfl))
                try simp only [Act.put, List.setIfInBounds_toArray, List.set_cons_zero, List.set_cons_succ, List.getElem_toArray, List.getElem_cons_zero, List.getElem_cons_succ]
                refine wpAnyH_take (i := 5) (v := ?_) rfl (by kernel_rfl) (by kernel_rfl) (by kernel_rfl) (fun _ _ _ h => h) (Or.inl ⟨by rfl, ?_⟩) (by assumption) ?_
                rotate_left
                · (intro w hSw; (try dsimp only at hSw); go_simp; try (with_reducible rfl))
                try simp only [Act.put, List.setIfInBounds_toArray, List.set_cons_zero, List.set_cons_succ, List.getElem_toArray, List.getElem_cons_zero, List.getElem_cons_succ]
                refine wpAnyH_take (i := 6) (v := ?_) rfl (by kernel_rfl) (by kernel_rfl) (by kernel_rfl) (fun _ _ _ h => h) (Or.inl ⟨by rfl, ?_⟩) (by assumption) ?_
                rotate_left
                · (intro w hSw; (try dsimp only at hSw); go_simp; try (with_reducible rfl))
                try simp only [Act.put, List.setIfInBounds_toArray, List.set_cons_zero, List.set_cons_succ, List.getElem_toArray, List.getElem_cons_zero, List.getElem_cons_succ]
                refine wpAnyH_take (i := 7) (v := ?_) rfl (by kernel_rfl) (by kernel_rfl) (by kernel_rfl) (fun _ _ _ h => h) (Or.inl ⟨by rfl, ?_⟩) (by assumption) ?_
                rotate_left
                · (intro w hSw; (try dsimp only at hSw); go_simp; try (with_reducible rfl))
                try simp only [Act.put, List.setIfInBounds_toArray, List.set_cons_zero, List.set_cons_succ, List.getElem_toArray, List.getElem_cons_zero, List.getElem_cons_succ]
                refine wpAnyH_take (i := 8) (v := ?_) rfl (by kernel_rfl) (by kernel_rfl) (by kernel_rfl) (fun _ _ _ h => h) (Or.inl ⟨by rfl, ?_⟩) (by assumption) ?_
                rotate_left
                · (intro w hSw; (try dsimp only at hSw); go_simp; try (with_reducible rfl))
                try simp only [Act.put, List.setIfInBounds_toArray, List.set_cons_zero, List.set_cons_succ, List.getElem_toArray, List.getElem_cons_zero, List.getElem_cons_succ]
                refine wpAnyH_take (i := 9) (v := ?_) rfl (by kernel_rfl) (by kernel_rfl) (by kernel_rfl) (fun _ _ _ h => h) (Or.inl ⟨by rfl, ?_⟩) (by assumption) ?_
                rotate_left
                · (intro w hSw; (try dsimp only at hSw); go_simp; try (with_reducible rfl))
                try simp only [Act.put, List.setIfInBounds_toArray, List.set_cons_zero, List.set_cons_succ, List.getElem_toArray, List.getElem_cons_zero, List.getElem_cons_succ]
                refine wpAnyH_take (i := 10) (v := ?_) rfl (by kernel_rfl) (by kernel_rfl) (by kernel_rfl) (fun _ _ _ h => h) (Or.inl ⟨by rfl, ?_⟩) (by assumption) ?_
                rotate_left
                · (intro w hSw; (try dsimp only at hSw); go_simp; try (with_reducible rfl))
                try simp only [Act.put, List.setIfInBounds_toArray, List.set_cons_zero, List.set_cons_succ, List.getElem_toArray, List.getElem_cons_zero, List.getElem_cons_succ]
                refine wpAnyH_ready (rs := [11]) (by kernel_rfl) (by simp) ?_
                refine AllReadyH.cons rfl (fun K hK => ?_) AllReadyH.nil
                go_simp
                refine HC.out.mono ?_
                clear HC
                intro e w5 hp
                obtain ⟨rfl, G', hrs⟩ := HRd.out.put hp
                obtain ⟨HP⟩ : Nonempty (Hid (RS B w w5 xb _ mo G')) := ⟨hrs⟩
                clear hrs hp
                refine hK.out _ _ ?_ (fun hHeld => ?_)
                · exact HE.out _ HP.out.below
                clear hK K
                try simp only [Act.put, List.setIfInBounds_toArray, List.set_cons_zero, List.set_cons_succ, List.getElem_toArray, List.getElem_cons_zero, List.getElem_cons_succ]
                refine wpAnyH_take (i := 12) (v := ?_) rfl (by kernel_rfl) (by kernel_rfl) (by kernel_rfl) (fun _ _ _ h => h) (Or.inl ⟨by rfl, ?_⟩) (by assumption) ?_
                rotate_left
                · (intro w hSw; (try dsimp only at hSw); go_simp; try (with_reducible rfl))
                try simp only [Act.put, List.setIfInBounds_toArray, List.set_cons_zero, List.set_cons_succ, List.getElem_toArray, List.getElem_cons_zero, List.getElem_cons_succ]
                refine wpAnyH_done (by kernel_rfl) ?_ _
                refine NoPanic.normal ?_
                clear hHeld c0 c1 c2
                obtain ⟨bx0, bx1, bf0, bf1⟩ := pre_cells HP.out.box
                go_wp2_with fail
                exact bodyPost_ret (v := .agg #[.int .i64 ((c : Int) + 1), .int .i64 m]) (by simp [results, Tryd.results32, go_sem, bx0, bx1]) rfl (HF.out c w5 G' _ HAD.out HP.out)
          · as_aux_lemma =>
            have hadd : addC M mo x0 x1 = 5 + 1 := by
              unfold addC
              rw [hr, if_pos rfl, if_pos ?_]
              rw [← HK.out.2.1, acc_has hkl HK.out.1]
              exact hdup
            obtain ⟨HAD⟩ : Nonempty (Hid (addC M mo x0 x1 = 5 + 1)) := ⟨hadd⟩
            clear hadd hdup
            obtain ⟨bx0, bx1, bf0, bf1⟩ := pre_cells HR3.out.box
            go_wp2_with fail
            all_goals
              exact bodyPost_ret (v := .agg #[.int .i64 6, .int .i64 k]) (by simp [results, Tryd.results32, go_sem, bx0, bx1]) rfl (HF.out 5 wr G M HAD.out HR3.out)
    · as_aux_lemma =>
      obtain rfl : k = l.length := by omega
      obtain ⟨v, q, c1, c2, cf, ⟨sp, sn, sc, rfl⟩, hrB, HG⟩ := HK.out.2.2.end hB.out HT.out.1
      obtain ⟨HGG⟩ : Nonempty (Hid (∃ G', _)) := ⟨HG⟩
      have hBlt : B < wr.heap.size := (Array.getElem?_eq_some_iff.1 HK.out.2.2.box).1
      have hbox : (wr.setCell ⟨rb, 1, none⟩ (.slice sp sn sc)).heap[B]? = some (.cells #[.int .i64 0, .int .i64 0] 63 (0, 0)) := by rw [heap_far _ _ _ _ _ (Ne.symm hrB)]; exact HK.out.2.2.box
      obtain ⟨HC⟩ : Nonempty (Hid (Calls _ _ _ _ _)) := ⟨rFine_any' (wr.setCell ⟨rb, 1, none⟩ (.slice sp sn sc))⟩
      clear HG hlt hkl
      go_wp2_with fail
      refine HC.out.mono ?_
      clear HC
      rintro e w5 ⟨rfl, hb5⟩
      have hbox5 : w5.heap[B]? = some (.cells #[.int .i64 0, .int .i64 0] 63 (0, 0)) := by rw [hb5.block B (Array.getElem?_eq_some_iff.1 hbox).1]; exact hbox
      obtain ⟨bx0, bx1, bf0, bf1⟩ := pre_cells hbox5
      obtain ⟨HQ⟩ : Nonempty (Hid (RSetPost mo F rb l w (.returned (.agg #[.int .i64 0, .int .i64 (-1)])) ((w5.setCell ⟨B, 0, none⟩ (.int .i64 0)).setCell ⟨B, 1, none⟩ (.int .i64 (-1))))) := ⟨by
        obtain ⟨G', g1, g2, g3, g4⟩ := HGG.out
        have kp : Kept [B] w5 ((w5.setCell ⟨B, 0, none⟩ (.int .i64 0)).setCell ⟨B, 1, none⟩ (.int .i64 (-1))) := ((Kept.refl _ _).setCell (.inl (by simp)) _).setCell (.inl (by simp)) _
        have hR := (g1.below hb5).kept kp (fun b hb hm => g4 b hb (by simpa using hm))
        exact .inl ⟨HK.out.1, rfl, G', by rw [HK.out.2.1]; exact hR, g2, (g3.trans (G := []) (Kept.of_below hb5) (by simp)).trans kp (fun x hx => .inr (by simp at hx; rw [hx, hB.out]; exact Nat.le_refl _))⟩⟩
      clear hb5 hbox hbox5 c1 c2 cf
      go_wp2_with fail
      exact bodyPost_ret (v := .agg #[.int .i64 0, .int .i64 (-1)]) (by simp [results, Tryd.results32, go_sem, bx0, bx1]) rfl HQ.out
end Go.Proofs.YthehpnhjfnenoabDoor
