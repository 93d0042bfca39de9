/-
  Package attr's Read: what it returns at every text of 100000 bytes at most.
-/
import Derived.Test.YtbfdgflbflajdaaGreatDoorAttrWords
namespace Go.Proofs.YtbfdgflbflajdaaGreatDoor
open Go.RowKit

theorem aCellsOf_get {l : List ByteArray} {N k : Nat} (hk : k < l.length) : (Lib.cellsOf l N)[k]? = some (.string l[k]) := by
  unfold Lib.cellsOf
  rw [List.getElem?_toArray, List.getElem?_append_left (by simpa using hk)]
  simp [List.getElem?_map, List.getElem?_eq_getElem hk]
theorem attrF_none (w : World) (N : Nat) : AttrF w (.agg #[.slice none 0 0, .int .i64 0, .int .i64 0, .int .i64 0, .slice none 0 0]) noneA N :=
  ⟨none, 0, none, 0, rfl, ints_nil _ _, ints_nil _ _, .inl ⟨rfl, rfl, rfl⟩, .inl ⟨rfl, rfl, rfl⟩, fun _ _ e => by simp at e, fun _ _ e => by simp at e⟩
/-- what is read, by its cases. -/
theorem read_words (l : List UInt8) (h : wordsOk (parts 32 [] l) = false) : readC l = 1 ∧ readA l = noneA := by
  have : readC l = 1 := by unfold readC; rw [h]; rfl
  refine ⟨this, ?_⟩
  unfold readA
  rw [if_neg (by rw [this]; decide)]
theorem read_ok {l : List UInt8} (h : wordsOk (parts 32 [] l) = true) : readC l = (faultA (wordsA (parts 32 [] l))).1 ∧ readA l = if (faultA (wordsA (parts 32 [] l))).1 = 0 then wordsA (parts 32 [] l) else noneA := by
  have : readC l = (faultA (wordsA (parts 32 [] l))).1 := by unfold readC; rw [h]; rfl
  refine ⟨this, ?_⟩
  unfold readA
  rw [this]
/-- the answer's place is written; all else stands. -/
theorem zero_store {w wx : World} {B : Nat} (hn : wx.heap[B]? = some (.cells #[.slice none 0 0, .int .i64 0, .int .i64 0, .int .i64 0, .slice none 0 0] 24 (0, 0))) (hb : Below B w wx) (hB : B < wx.heap.size) (a b c d e : Value) {wf : World} (hwf : (((((wx.setCell ⟨B, 0, none⟩ a).setCell ⟨B, 1, none⟩ b).setCell ⟨B, 2, none⟩ c).setCell ⟨B, 3, none⟩ d).setCell ⟨B, 4, none⟩ e).drew = wf) :
    RY wf B #[a, b, c, d, e] ∧ Below B w wf := by
  subst hwf
  exact ⟨five_set hn a b c d e, hb.trans ((five_kept wx B a b c d e).below (by omega) (by simp))⟩
theorem five_set' {wx : World} {N : Nat} (hn : wx.heap[N]? = some (.cells #[.slice none 0 0, .int .i64 0, .int .i64 0, .int .i64 0, .slice none 0 0] 24 (0, 0))) (a b c d e : Value) :
    RY (((((wx.setCell ⟨N, 0, none⟩ a).setCell ⟨N, 1, none⟩ b).setCell ⟨N, 2, none⟩ c).setCell ⟨N, 3, none⟩ d).setCell ⟨N, 4, none⟩ e) N #[a, b, c, d, e] := by
  have x0 : RY wx N #[.slice none 0 0, .int .i64 0, .int .i64 0, .int .i64 0, .slice none 0 0] := hn
  have x5 := ((((x0.set 0 a).set 1 b).set 2 c).set 3 d).set 4 e
  simp only [List.setIfInBounds_toArray, List.set_cons_zero, List.set_cons_succ] at x5
  exact x5
theorem five_kept' (wx : World) (N : Nat) (a b c d e : Value) : Kept [N] wx (((((wx.setCell ⟨N, 0, none⟩ a).setCell ⟨N, 1, none⟩ b).setCell ⟨N, 2, none⟩ c).setCell ⟨N, 3, none⟩ d).setCell ⟨N, 4, none⟩ e) :=
  (((((Kept.refl _ wx).setCell (Or.inl (by simp)) _).setCell (Or.inl (by simp)) _).setCell (Or.inl (by simp)) _).setCell (Or.inl (by simp)) _).setCell (Or.inl (by simp)) _
/-- the answer's place, while Read runs. -/
def RP (w wr : World) (B : Nat) : Prop := wr.heap[B]? = some (.cells #[.slice none 0 0, .int .i64 0, .int .i64 0, .int .i64 0, .slice none 0 0] 24 (0, 0)) ∧ Below B w wr ∧ B < wr.heap.size
theorem RP.on {w wr w' : World} {B : Nat} (h : RP w wr B) (hb : Below wr.heap.size wr w') : RP w w' B :=
  ⟨by rw [hb.block B h.2.2]; exact h.1, h.2.1.trans (hb.mono (Nat.le_of_lt h.2.2)), Nat.lt_of_lt_of_le h.2.2 hb.size⟩
theorem RP.cells {w wr : World} {B : Nat} (h : RP w wr B) : wr.cell? ⟨B, 0, none⟩ = some (.slice none 0 0) ∧ wr.cell? ⟨B, 1, none⟩ = some (.int .i64 0) ∧ wr.cell? ⟨B, 2, none⟩ = some (.int .i64 0) ∧ wr.cell? ⟨B, 3, none⟩ = some (.int .i64 0) ∧ wr.cell? ⟨B, 4, none⟩ = some (.slice none 0 0) := by
  refine ⟨?_, ?_, ?_, ?_, ?_⟩ <;> simp [World.cell?, h.1]
theorem RP.soft {w wr : World} {B : Nat} (h : RP w wr B) (k : Nat) : wr.frozen? ⟨B, k, none⟩ = false := by simp [World.frozen?, h.1]

set_option linter.unusedSimpArgs false in
set_option linter.unusedVariables false in
set_option maxRecDepth 100000 in
set_option maxHeartbeats 8000000 in
theorem read_own (l : List UInt8) (E : Nat → Addr) (m : Int) (w : World) (hE : AttrEnv w E m) (hs0 : l.length ≤ 100000) :
    Calls Tryz.prog 10 #[.string ⟨l.toArray⟩] w fun r w' => (∃ v, r = .returned (.tuple #[v, ev E (readC l).toNat]) ∧ AttrF w' v (readA l) w.heap.size) ∧ Below w.heap.size w w' := by
  have hs : l.length < 4294967281 := by omega
  obtain ⟨HEV⟩ : Nonempty (Hid (∀ w', Below w.heap.size w w' → AttrEnv w' E m)) := ⟨fun w' hb => hE.below hb⟩
  obtain ⟨HSP⟩ : Nonempty (Hid (∀ w', Below w.heap.size w w' → Calls _ _ _ _ _)) := ⟨fun w' hb => Tryz.strings_SplitN (aBytesL l) ⟨#[32]⟩ 6 m w' (by show l.toArray.size < _; simpa using hs) (hE.below hb).max (Nat.le_refl 1) (by decide) (by decide)⟩
  obtain ⟨B, hB⟩ : ∃ B, Hid (w.heap.size = B) := ⟨_, show _ = _ from rfl⟩
  have hsz : (aBytesL l).size = l.length := by show l.toArray.size = _; simp
  have h6 := split_six 32 l
  rw [hsz] at HSP
  obtain ⟨ws, hws⟩ : ∃ ws, Hid (Lib.splitB ⟨#[32]⟩ 0 (min 6 (l.length + 1) - 1) (aBytesL l) = ws) := ⟨_, show _ = _ from rfl⟩
  rw [show Lib.splitB ⟨#[32]⟩ 0 (min 6 (l.length + 1) - 1) (aBytesL l) = ws from hws.out] at HSP h6
  obtain ⟨NC, hNC⟩ : ∃ N, Hid (min 6 (l.length + 1) = N) := ⟨_, show _ = _ from rfl⟩
  rw [show min 6 (l.length + 1) = NC from hNC.out] at HSP
  have hwl := Lib.splitB_length_le ⟨#[32]⟩ 0 (min 6 (l.length + 1) - 1) (aBytesL l)
  rw [show Lib.splitB ⟨#[32]⟩ 0 (min 6 (l.length + 1) - 1) (aBytesL l) = ws from hws.out, show min 6 (l.length + 1) = NC from hNC.out] at hwl
  have hN6 : NC ≤ 6 := by rw [← hNC.out]; omega
  have hN1 : 1 ≤ NC := by rw [← hNC.out]; omega
  obtain ⟨C, hC⟩ : ∃ C : Array Value, Hid (Lib.cellsOf ws NC = C) := ⟨_, show _ = _ from rfl⟩
  rw [show Lib.cellsOf ws NC = C from hC.out] at HSP
  unfold aBytesL at HSP
  obtain ⟨HP0⟩ : Nonempty (Hid (RP w (w.alloc (.cells #[.slice none 0 0, .int .i64 0, .int .i64 0, .int .i64 0, .slice none 0 0] 24)) B)) := ⟨by rw [← hB.out]; exact ⟨Go.heap_alloc_new w _, below_alloc _ _, by simp⟩⟩
  clear hE hsz
  by_cases h5 : ws.length = 5
  · obtain ⟨hp, hpl⟩ : ws = (parts 32 [] l).map aBytesL ∧ (parts 32 [] l).length = 5 := by
      rcases h6 with h6 | h6
      · exact ⟨h6, by rw [h6] at h5; simpa using h5⟩
      · exact absurd h5 h6.1
    obtain ⟨a, b, c, d, e, hpp⟩ := five_words _ hpl
    have hlen : ∀ x ∈ parts 32 [] l, x.length ≤ l.length := fun x hx => by have := parts_short 32 [] l x hx; simpa using this
    rw [hpp] at hp hlen
    obtain ⟨HL⟩ : Nonempty (Hid (a.length ≤ l.length ∧ b.length ≤ l.length ∧ c.length ≤ l.length ∧ d.length ≤ l.length ∧ e.length ≤ l.length)) := ⟨⟨hlen a (by simp), hlen b (by simp), hlen c (by simp), hlen d (by simp), hlen e (by simp)⟩⟩
    have hN5 : 5 ≤ NC := by omega
    obtain ⟨HF⟩ : Nonempty (Hid (∀ (W : World) (k : Nat), W.heap[k]? = some (.cells C 9 (0, 0)) → Five W k 0 a b c d e)) := ⟨fun W k hk => by
      have hg : ∀ j (hj : j < 5), C[j]? = some (.string (ws[j]'(by omega))) := fun j hj => by rw [← hC.out]; exact aCellsOf_get (by omega)
      subst hp
      refine ⟨?_, ?_, ?_, ?_, ?_⟩
      · have := hg 0 (by omega); simp [World.cell?, hk, this, aBytesL]
      · have := hg 1 (by omega); simp [World.cell?, hk, this, aBytesL]
      · have := hg 2 (by omega); simp [World.cell?, hk, this, aBytesL]
      · have := hg 3 (by omega); simp [World.cell?, hk, this, aBytesL]
      · have := hg 4 (by omega); simp [World.cell?, hk, this, aBytesL]⟩
    obtain ⟨HRW⟩ : Nonempty (Hid (∀ W k, Below w.heap.size w W → W.heap[k]? = some (.cells C 9 (0, 0)) → Calls _ _ _ _ _)) := ⟨fun W k hb hk => readWords_any a b c d e k 0 NC E m W (HEV.out W hb) (HF.out W k hk) (by have := HL.out; omega) (by have := HL.out; unfold maxLen; omega) (by have := HL.out; unfold maxLen; omega) (by have := HL.out; unfold maxLen; omega) (by have := HL.out; omega) hN5⟩
    rw [h5] at HSP
    have hwb := wordsB_ok a b c d e
    have hrd : (wordsB a b c d e = false → readC l = 1 ∧ readA l = noneA) ∧ (wordsB a b c d e = true → readC l = (faultA (wordsM a b c d e)).1 ∧ readA l = if (faultA (wordsM a b c d e)).1 = 0 then wordsM a b c d e else noneA) := by
      constructor
      · intro h; exact read_words l (by rw [hpp, ← hwb]; exact h)
      · intro h
        have ok : wordsOk [a, b, c, d, e] = true := by rw [← hwb]; exact h
        have := read_ok (l := l) (by rw [hpp]; exact ok)
        rw [hpp] at this
        rw [wordsM_ok ok]; exact this
    have hML : (wordsM a b c d e).path.length ≤ 1000000 ∨ wordsB a b c d e = false ∨ True := Or.inr (Or.inr trivial)
    have hPL : (wordsM a b c d e).path.length ≤ l.length + 1 ∧ (wordsM a b c d e).tags.length ≤ l.length + 1 := by
      have q1 := HL.out
      have f : ∀ c x, (unlM c x).length ≤ x.length + 1 := fun c x => by
        unfold unlM
        split
        · simp
        · rw [List.length_map]; exact (parts_length c [] x).2
      have f1 := f 45 a
      have f2 := f 44 e
      show (unlM 45 a).length ≤ _ ∧ (unlM 44 e).length ≤ _
      omega
    obtain ⟨xb, hxb⟩ : ∃ x, Hid (wordsB a b c d e = x) := ⟨_, show _ = _ from rfl⟩
    obtain ⟨xm, hxm⟩ : ∃ x, Hid (wordsM a b c d e = x) := ⟨_, show _ = _ from rfl⟩
    rw [show wordsB a b c d e = xb from hxb.out, show wordsM a b c d e = xm from hxm.out] at HRW hrd
    rw [show wordsM a b c d e = xm from hxm.out] at hPL
    obtain ⟨rc, hrc⟩ : ∃ x, Hid (readC l = x) := ⟨_, show _ = _ from rfl⟩
    obtain ⟨ra, hra⟩ : ∃ x, Hid (readA l = x) := ⟨_, show _ = _ from rfl⟩
    rw [show readC l = rc from hrc.out, show readA l = ra from hra.out] at hrd ⊢
    obtain ⟨HRD⟩ : Nonempty (Hid (_ ∧ _)) := ⟨hrd⟩
    obtain ⟨HPL⟩ : Nonempty (Hid (_ ∧ _)) := ⟨hPL⟩
    clear hp hpl hpp hlen hwb hML hrd hPL h5 h6 hwl hC hws
    go_enter Tryz.func10, Tryz.ntmps10
    go_wp2_with fail
    refine (HSP.out _ (below_alloc _ _)).mono ?_
    rintro e0 w1 ⟨rfl, hw1⟩
    obtain ⟨HP1⟩ : Nonempty (Hid (RP w w1 B ∧ w1.heap[B + 1]? = some (.cells C 9 (0, 0)))) := ⟨by
      subst hw1
      refine ⟨HP0.out.on (below_alloc _ _), ?_⟩
      have := Go.heap_alloc_new (w.alloc (.cells #[.slice none 0 0, .int .i64 0, .int .i64 0, .int .i64 0, .slice none 0 0] 24)) (.cells C 9)
      rw [show (w.alloc (.cells #[.slice none 0 0, .int .i64 0, .int .i64 0, .int .i64 0, .slice none 0 0] 24)).heap.size = B + 1 by rw [← show w.heap.size = B from hB.out]; simp] at this
      exact this⟩
    have hb1 : Below w.heap.size w w1 := by rw [show w.heap.size = B from hB.out]; exact HP1.out.1.2.1
    obtain ⟨HRW1⟩ : Nonempty (Hid (Calls _ _ _ _ _)) := ⟨HRW.out w1 (B + 1) hb1 HP1.out.2⟩
    rw [show (w.alloc (.cells #[.slice none 0 0, .int .i64 0, .int .i64 0, .int .i64 0, .slice none 0 0] 24)).heap.size = B + 1 by rw [← show w.heap.size = B from hB.out]; simp]
    rw [show w.heap.size = B from hB.out] at HEV ⊢
    clear hw1 hb1 HSP HRW
    go_wp2_with fail
    refine HRW1.out.mono ?_
    rintro e1 w2 ⟨⟨v, rfl, hk⟩, hb2⟩
    obtain ⟨HP2⟩ : Nonempty (Hid (RP w w2 B)) := ⟨HP1.out.1.on hb2⟩
    obtain ⟨HK2⟩ : Nonempty (Hid (AttrK w2 v xm)) := ⟨hk.attrK⟩
    obtain ⟨p, cp, q, cq, rfl, -, -, -, -, n1, n2⟩ := hk
    obtain ⟨HNB⟩ : Nonempty (Hid ((∀ b o, p = some ⟨b, o, none⟩ → B < b) ∧ (∀ b o, q = some ⟨b, o, none⟩ → B < b))) := ⟨⟨fun b o e => by have := n1 b o e; have := HP1.out.1.2.2; omega, fun b o e => by have := n2 b o e; have := HP1.out.1.2.2; omega⟩⟩
    clear n1 n2
    clear hb2 HRW1
    cases xb with
    | false =>
      obtain ⟨HR1⟩ : Nonempty (Hid (rc = 1 ∧ ra = noneA)) := ⟨HRD.out.1 rfl⟩
      obtain ⟨W3, hW3⟩ : ∃ W3, Hid (w2.alloc (.cells #[.slice p xm.path.length cp, .int .i64 xm.pref, .int .i64 xm.med, .int .i64 xm.org, .slice q xm.tags.length cq] 24) = W3) := ⟨_, show _ = _ from rfl⟩
      obtain ⟨HP3⟩ : Nonempty (Hid (RP w W3 B)) := ⟨by rw [← show _ = W3 from hW3.out]; exact HP2.out.on (below_alloc _ _)⟩
      go_upto_region 6 with fail
      rw [show w2.alloc (.cells #[.slice p xm.path.length cp, .int .i64 xm.pref, .int .i64 xm.med, .int .i64 xm.org, .slice q xm.tags.length cq] 24) = W3 from hW3.out]
      clear hW3
      obtain ⟨wf, hwf⟩ : ∃ x, Hid ((((((W3.setCell ⟨B, 0, none⟩ (.slice none 0 0)).setCell ⟨B, 1, none⟩ (.int .i64 0)).setCell ⟨B, 2, none⟩ (.int .i64 0)).setCell ⟨B, 3, none⟩ (.int .i64 0)).setCell ⟨B, 4, none⟩ (.slice none 0 0)).drew = x) := ⟨_, show _ = _ from rfl⟩
      obtain ⟨HWF⟩ : Nonempty (Hid (RY wf B #[.slice none 0 0, .int .i64 0, .int .i64 0, .int .i64 0, .slice none 0 0] ∧ Below B w wf)) := ⟨zero_store HP3.out.1 HP3.out.2.1 HP3.out.2.2 _ _ _ _ _ hwf.out⟩
      obtain ⟨r0, r1, r2, r3, r4⟩ := HP3.out.cells
      have y0 := HP3.out.soft 0
      have y1 := HP3.out.soft 1
      have y2 := HP3.out.soft 2
      have y3 := HP3.out.soft 3
      have y4 := HP3.out.soft 4
      refine wp_region_noPanic ?_
      refine wp_region_held_drew (S := (fun w' => w'.cell? ⟨2, 0, none⟩ = some (.iface 224 (.pointer (some (E 0)))))) (by kernel_rfl) ?_ (fun hHeld => ?_)
      · exact (HEV.out _ HP3.out.2.1.drew).txt
      refine wpAnyH_take (i := 0) (v := ?_) rfl (by kernel_rfl) (by kernel_rfl) (by kernel_rfl) (fun _ _ _ h => h) (Or.inl ⟨by rfl, ?_⟩) (by assumption) ?_
      rotate_left
      · (intro w hSw; (try dsimp only at hSw); go_simp; try (with_reducible rfl))
      try simp only [Act.put, List.setIfInBounds_toArray, List.set_cons_zero, List.set_cons_succ, List.getElem_toArray, List.getElem_cons_zero, List.getElem_cons_succ]
      refine wpAnyH_take (i := 1) (v := ?_) rfl (by kernel_rfl) (by kernel_rfl) (by kernel_rfl) (fun _ _ _ h => h) (Or.inl ⟨by rfl, ?_⟩) (by assumption) ?_
      rotate_left
      · (intro w hSw; (try dsimp only at hSw); go_simp; try (with_reducible rfl))
      try simp only [Act.put, List.setIfInBounds_toArray, List.set_cons_zero, List.set_cons_succ, List.getElem_toArray, List.getElem_cons_zero, List.getElem_cons_succ]
      refine wpAnyH_ready (rs := [2]) (by kernel_rfl) (by simp) ?_
      refine AllReadyH.cons rfl (fun K hK => ?_) AllReadyH.nil
      go_simp
      rw [show (((((W3.setCell ⟨B, 0, none⟩ (.slice none 0 0)).setCell ⟨B, 1, none⟩ (.int .i64 0)).setCell ⟨B, 2, none⟩ (.int .i64 0)).setCell ⟨B, 3, none⟩ (.int .i64 0)).setCell ⟨B, 4, none⟩ (.slice none 0 0)).drew = wf from hwf.out]
      refine hK.out _ _ ?_ (fun hHeld => ?_)
      · exact (HEV.out _ HWF.out.2).txt
      clear hK K
      try simp only [Act.put, List.setIfInBounds_toArray, List.set_cons_zero, List.set_cons_succ, List.getElem_toArray, List.getElem_cons_zero, List.getElem_cons_succ]
      refine wpAnyH_take (i := 3) (v := ?_) rfl (by kernel_rfl) (by kernel_rfl) (by kernel_rfl) (fun _ _ _ h => h) (Or.inl ⟨by rfl, ?_⟩) (by assumption) ?_
      rotate_left
      · (intro w hSw; (try dsimp only at hSw); go_simp; try (with_reducible rfl))
      try simp only [Act.put, List.setIfInBounds_toArray, List.set_cons_zero, List.set_cons_succ, List.getElem_toArray, List.getElem_cons_zero, List.getElem_cons_succ]
      refine wpAnyH_done (by kernel_rfl) ?_ _
      refine NoPanic.normal ?_
      clear hHeld r0 r1 r2 r3 r4 y0 y1 y2 y3 y4
      go_wp2_with fail
      obtain ⟨g0, g1, g2, g3, g4⟩ := HWF.out.1.cells
      refine bodyPost_ret (v := .tuple #[.agg #[.slice none 0 0, .int .i64 0, .int .i64 0, .int .i64 0, .slice none 0 0], .iface 224 (.pointer (some (E 0)))]) (by simp [results, Tryz.results10, go_sem, g0, g1, g2, g3, g4]) rfl ⟨⟨_, by rw [HR1.out.1]; rfl, by rw [HR1.out.2]; exact attrF_none _ _⟩, ?_⟩
      first | exact HWF.out.2 | (rw [show w.heap.size = B from hB.out]; exact HWF.out.2)
    | true =>
      obtain ⟨HR1⟩ : Nonempty (Hid (rc = (faultA xm).1 ∧ ra = if (faultA xm).1 = 0 then xm else noneA)) := ⟨HRD.out.2 rfl⟩
      have hb3 := below_alloc w2 (.cells #[.slice p xm.path.length cp, .int .i64 xm.pref, .int .i64 xm.med, .int .i64 xm.org, .slice q xm.tags.length cq] 24)
      obtain ⟨HP3⟩ : Nonempty (Hid (RP w (w2.alloc (.cells #[.slice p xm.path.length cp, .int .i64 xm.pref, .int .i64 xm.med, .int .i64 xm.org, .slice q xm.tags.length cq] 24)) B ∧ (w2.alloc (.cells #[.slice p xm.path.length cp, .int .i64 xm.pref, .int .i64 xm.med, .int .i64 xm.org, .slice q xm.tags.length cq] 24)).heap[w2.heap.size]? = some (.cells #[.slice p xm.path.length cp, .int .i64 xm.pref, .int .i64 xm.med, .int .i64 xm.org, .slice q xm.tags.length cq] 24 (0, 0)))) := ⟨⟨HP2.out.on hb3, Go.heap_alloc_new _ _⟩⟩
      obtain ⟨HCK⟩ : Nonempty (Hid (Calls _ _ _ _ _)) := ⟨aCheck_any _ xm E m _ (HEV.out _ HP3.out.1.2.1) (HK2.out.below hb3).attr (by have := HPL.out.1; omega) (by have := HPL.out.2; omega)⟩
      obtain ⟨fc, hfc⟩ : ∃ x, Hid ((faultA xm).1.toNat = x) := ⟨_, show _ = _ from rfl⟩
      obtain ⟨fd, hfd⟩ : ∃ x, Hid ((faultA xm).2 = x) := ⟨_, show _ = _ from rfl⟩
      rw [show (faultA xm).1.toNat = fc from hfc.out, show (faultA xm).2 = fd from hfd.out] at HCK
      obtain ⟨HFS⟩ : Nonempty (Hid (rc.toNat = fc ∧ ra = if fc = 0 then xm else noneA)) := ⟨by
        have s := fault_sign xm
        have h1 := HR1.out.1
        have h2 := HR1.out.2
        refine ⟨by rw [h1]; exact hfc.out, ?_⟩
        rw [h2, ← hfc.out]
        rcases s with s | s
        · rw [if_pos s, if_pos (by omega)]
        · rw [if_neg (by omega), if_neg (by omega)]⟩
      obtain ⟨P, f0, n0, o0, T⟩ := xm
      simp only at *
      go_wp2_with fail
      refine HCK.out.mono ?_
      rintro e2 w4 ⟨⟨v1, rfl, hv1⟩, hb4⟩
      obtain ⟨HP4⟩ : Nonempty (Hid (RP w w4 B)) := ⟨HP3.out.1.on hb4⟩
      obtain ⟨HK4⟩ : Nonempty (Hid (AttrK w4 _ _)) := ⟨(HK2.out.below hb3).below hb4⟩
      have hX : w4.heap[w2.heap.size]? = some (.cells #[.slice p P.length cp, .int .i64 f0, .int .i64 n0, .int .i64 o0, .slice q T.length cq] 24 (0, 0)) := by rw [hb4.block _ (by simp)]; exact HP3.out.2
      obtain ⟨a0, a1, a2, a3, a4⟩ := RY.cells hX
      obtain ⟨HV1⟩ : Nonempty (Hid (IsErr w4 E v1 fc fd)) := ⟨hv1⟩
      obtain ⟨r0, r1, r2, r3, r4⟩ := HP4.out.cells
      have y0 := HP4.out.soft 0
      have y1 := HP4.out.soft 1
      have y2 := HP4.out.soft 2
      have y3 := HP4.out.soft 3
      have y4 := HP4.out.soft 4
      rcases isErr_cases hv1 with ⟨rfl, rfl⟩ | ⟨hpos, t, ad, rfl⟩
      · clear hv1 hb4 hX HCK hb3
        go_wp2_with fail
        obtain ⟨p', cp', q', cq', e', i1, i2, k1, k2⟩ := HK4.out
        simp only [Value.agg.injEq, Array.mk.injEq, List.cons.injEq, Value.slice.injEq, and_true, true_and] at e'
        obtain ⟨⟨rfl, rfl⟩, rfl, rfl⟩ := e'
        have hra : ra = ⟨P, f0, n0, o0, T⟩ := by rw [HFS.out.2]; rfl
        have hbk := five_kept' w4 B (.slice p P.length cp) (.int .i64 f0) (.int .i64 n0) (.int .i64 o0) (.slice q T.length cq)
        have hra0 : rc.toNat = 0 := HFS.out.1
        have hbA : Ints w4 p P ∧ Ints w4 q T := ⟨i1, i2⟩
        refine bodyPost_ret (v := .tuple #[.agg #[.slice p P.length cp, .int .i64 f0, .int .i64 n0, .int .i64 o0, .slice q T.length cq], .nilIface]) (by simp [results, Tryz.results10, go_sem, r0, r1, r2, r3, r4]) rfl ⟨⟨_, by rw [hra0]; rfl, by rw [hra]; exact ⟨p, cp, q, cq, rfl, i1.kept hbk (fun b o e => by have := HNB.out.1 b o e; simp; omega), i2.kept hbk (fun b o e => by have := HNB.out.2 b o e; simp; omega), k1, k2, fun b o e => by have := HNB.out.1 b o e; have := hB.out; omega, fun b o e => by have := HNB.out.2 b o e; have := hB.out; omega⟩⟩, ?_⟩
        · have := HP4.out.2.1.trans (hbk.below (Nat.le_of_lt HP4.out.2.2) (by simp))
          first | exact this | (rw [show w.heap.size = B from hB.out]; exact this)
      · obtain ⟨HBC⟩ : Nonempty (Hid (Calls _ _ _ _ _)) := ⟨bare_any _ fc fd E m w4 (HEV.out _ HP4.out.2.1) hv1 hpos⟩
        obtain ⟨u, hu⟩ : ∃ u, Hid (ev E fc = u) := ⟨_, show _ = _ from rfl⟩
        rw [show ev E fc = u from hu.out] at HBC
        clear hv1 hb4 hX HCK hb3 a0 a1 a2 a3 a4 r0 r1 r2 r3 r4 y0 y1 y2 y3 y4
        go_wp2_with fail
        refine HBC.out.mono ?_
        rintro e3 w5 ⟨rfl, hb5⟩
        obtain ⟨HP5⟩ : Nonempty (Hid (RP w w5 B)) := ⟨HP4.out.on hb5⟩
        obtain ⟨r0, r1, r2, r3, r4⟩ := HP5.out.cells
        have y0 := HP5.out.soft 0
        have y1 := HP5.out.soft 1
        have y2 := HP5.out.soft 2
        have y3 := HP5.out.soft 3
        have y4 := HP5.out.soft 4
        clear hb5 HBC
        go_wp2_with fail
        have hbk := five_kept' w5 B (.slice none 0 0) (.int .i64 0) (.int .i64 0) (.int .i64 0) (.slice none 0 0)
        refine bodyPost_ret (v := .tuple #[.agg #[.slice none 0 0, .int .i64 0, .int .i64 0, .int .i64 0, .slice none 0 0], u]) (by simp [results, Tryz.results10, go_sem, r0, r1, r2, r3, r4]) rfl ⟨⟨_, by rw [HFS.out.1, hu.out], by rw [HFS.out.2, if_neg (by omega)]; exact attrF_none _ _⟩, ?_⟩
        have := HP5.out.2.1.trans (hbk.below (Nat.le_of_lt HP5.out.2.2) (by simp))
        first | exact this | (rw [show w.heap.size = B from hB.out]; exact this)
  · have h5' : ((ws.length : Int) != 5) = true := by rw [bne_iff_ne]; omega
    have hwo : wordsOk (parts 32 [] l) = false := by
      apply words_five
      rcases h6 with h6 | h6
      · rw [h6] at h5; simpa using h5
      · exact h6.2
    obtain ⟨HR1⟩ : Nonempty (Hid (readC l = 1 ∧ readA l = noneA)) := ⟨read_words l hwo⟩
    obtain ⟨rc, hrc⟩ : ∃ x, Hid (readC l = x) := ⟨_, show _ = _ from rfl⟩
    obtain ⟨ra, hra⟩ : ∃ x, Hid (readA l = x) := ⟨_, show _ = _ from rfl⟩
    rw [show readC l = rc from hrc.out, show readA l = ra from hra.out] at HR1 ⊢
    obtain ⟨L, hL⟩ : ∃ L, Hid (ws.length = L) := ⟨_, show _ = _ from rfl⟩
    rw [show ws.length = L from hL.out] at HSP h5' hwl
    clear h5 h6 hwo
    go_enter Tryz.func10, Tryz.ntmps10
    go_wp2_with fail
    refine (HSP.out _ (below_alloc _ _)).mono ?_
    rintro e0 W3 ⟨rfl, hw1⟩
    obtain ⟨HP3⟩ : Nonempty (Hid (RP w W3 B)) := ⟨by subst hw1; exact HP0.out.on (below_alloc _ _)⟩
    rw [show w.heap.size = B from hB.out] at HEV ⊢
    clear hw1 HSP
    go_upto_region 3 with fail
    obtain ⟨wf, hwf⟩ : ∃ x, Hid ((((((W3.setCell ⟨B, 0, none⟩ (.slice none 0 0)).setCell ⟨B, 1, none⟩ (.int .i64 0)).setCell ⟨B, 2, none⟩ (.int .i64 0)).setCell ⟨B, 3, none⟩ (.int .i64 0)).setCell ⟨B, 4, none⟩ (.slice none 0 0)).drew = x) := ⟨_, show _ = _ from rfl⟩
    obtain ⟨HWF⟩ : Nonempty (Hid (RY wf B #[.slice none 0 0, .int .i64 0, .int .i64 0, .int .i64 0, .slice none 0 0] ∧ Below B w wf)) := ⟨zero_store HP3.out.1 HP3.out.2.1 HP3.out.2.2 _ _ _ _ _ hwf.out⟩
    obtain ⟨r0, r1, r2, r3, r4⟩ := HP3.out.cells
    have y0 := HP3.out.soft 0
    have y1 := HP3.out.soft 1
    have y2 := HP3.out.soft 2
    have y3 := HP3.out.soft 3
    have y4 := HP3.out.soft 4
    refine wp_region_noPanic ?_
    refine wp_region_held_drew (S := (fun w' => w'.cell? ⟨2, 0, none⟩ = some (.iface 224 (.pointer (some (E 0)))))) (by kernel_rfl) ?_ (fun hHeld => ?_)
    · exact (HEV.out _ HP3.out.2.1.drew).txt
    refine wpAnyH_take (i := 0) (v := ?_) rfl (by kernel_rfl) (by kernel_rfl) (by kernel_rfl) (fun _ _ _ h => h) (Or.inl ⟨by rfl, ?_⟩) (by assumption) ?_
    rotate_left
    · (intro w hSw; (try dsimp only at hSw); go_simp; try (with_reducible rfl))
    try simp only [Act.put, List.setIfInBounds_toArray, List.set_cons_zero, List.set_cons_succ, List.getElem_toArray, List.getElem_cons_zero, List.getElem_cons_succ]
    refine wpAnyH_take (i := 1) (v := ?_) rfl (by kernel_rfl) (by kernel_rfl) (by kernel_rfl) (fun _ _ _ h => h) (Or.inl ⟨by rfl, ?_⟩) (by assumption) ?_
    rotate_left
    · (intro w hSw; (try dsimp only at hSw); go_simp; try (with_reducible rfl))
    try simp only [Act.put, List.setIfInBounds_toArray, List.set_cons_zero, List.set_cons_succ, List.getElem_toArray, List.getElem_cons_zero, List.getElem_cons_succ]
    refine wpAnyH_ready (rs := [2]) (by kernel_rfl) (by simp) ?_
    refine AllReadyH.cons rfl (fun K hK => ?_) AllReadyH.nil
    go_simp
    rw [show (((((W3.setCell ⟨B, 0, none⟩ (.slice none 0 0)).setCell ⟨B, 1, none⟩ (.int .i64 0)).setCell ⟨B, 2, none⟩ (.int .i64 0)).setCell ⟨B, 3, none⟩ (.int .i64 0)).setCell ⟨B, 4, none⟩ (.slice none 0 0)).drew = wf from hwf.out]
    refine hK.out _ _ ?_ (fun hHeld => ?_)
    · exact (HEV.out _ HWF.out.2).txt
    clear hK K
    try simp only [Act.put, List.setIfInBounds_toArray, List.set_cons_zero, List.set_cons_succ, List.getElem_toArray, List.getElem_cons_zero, List.getElem_cons_succ]
    refine wpAnyH_take (i := 3) (v := ?_) rfl (by kernel_rfl) (by kernel_rfl) (by kernel_rfl) (fun _ _ _ h => h) (Or.inl ⟨by rfl, ?_⟩) (by assumption) ?_
    rotate_left
    · (intro w hSw; (try dsimp only at hSw); go_simp; try (with_reducible rfl))
    try simp only [Act.put, List.setIfInBounds_toArray, List.set_cons_zero, List.set_cons_succ, List.getElem_toArray, List.getElem_cons_zero, List.getElem_cons_succ]
    refine wpAnyH_done (by kernel_rfl) ?_ _
    refine NoPanic.normal ?_
    clear hHeld r0 r1 r2 r3 r4 y0 y1 y2 y3 y4
    go_wp2_with fail
    obtain ⟨g0, g1, g2, g3, g4⟩ := HWF.out.1.cells
    refine bodyPost_ret (v := .tuple #[.agg #[.slice none 0 0, .int .i64 0, .int .i64 0, .int .i64 0, .slice none 0 0], .iface 224 (.pointer (some (E 0)))]) (by simp [results, Tryz.results10, go_sem, g0, g1, g2, g3, g4]) rfl ⟨⟨_, by rw [HR1.out.1]; rfl, by rw [HR1.out.2]; exact attrF_none _ _⟩, ?_⟩
    first | exact HWF.out.2 | (rw [show w.heap.size = B from hB.out]; exact HWF.out.2)
theorem aRead_any (l : List UInt8) (E : Nat → Addr) (m : Int) (w : World) (hE : AttrEnv w E m) (hs0 : l.length ≤ 100000) :
    Calls Tryz.prog 10 #[.string ⟨l.toArray⟩] w fun r w' => (∃ v, r = .returned (.tuple #[v, ev E (readC l).toNat]) ∧ AttrK w' v (readA l)) ∧ Below w.heap.size w w' :=
  (read_own l E m w hE hs0).mono fun _ _ ⟨⟨v, e, k⟩, b⟩ => ⟨⟨v, e, k.attrK⟩, b⟩
end Go.Proofs.YtbfdgflbflajdaaGreatDoor
