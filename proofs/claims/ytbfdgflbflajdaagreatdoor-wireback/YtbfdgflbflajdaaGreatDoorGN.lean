/-
  Package wire's headText and Text: what they return.
  A row of strings of one's own: one more at its end. The texts of a message, line by line.
  The document's unlist: the numbers of a text, or none.
  What is told of a route, as text and back: plain mathematics. What is read of a text; it is read as it was written.
  What package wire's Read makes of a text, line by line: a right message's text, and one with a route told wrongly. No program here.
  Package wire's withDrop: what it returns.
  What package wire's reading holds in memory while a text is read; what stands when one of its lists grows.
-/
import Derived.Test.YtbfdgflbflajdaaGreatDoorGI
import Derived.Test.YtbfdgflbflajdaaGreatDoorAttrTxt2
import Derived.Test.YtbfdgflbflajdaaGreatDoorTxt
import Derived.Test.YtbfdgflbflajdaaGreatDoorGL
import Derived.Test.YtbfdgflbflajdaaGreatDoorGC
import Derived.Test.YtbfdgflbflajdaaGreatDoorGE
import Derived.Test.YtbfdgflbflajdaaGreatDoorGM
namespace Go.Proofs.YtbfdgflbflajdaaGreatDoor
open Go.RowKit

def headT (k : List UInt8) (n : Int) : List UInt8 := if k = kOpen ∨ k = kNote then k ++ 32 :: Lib.itoa n else k
set_option linter.unusedVariables false in
set_option linter.unusedSimpArgs false in
set_option maxRecDepth 100000 in
set_option maxHeartbeats 4000000 in
theorem headText_any (k : List UInt8) (n : Int) (x y : Value) (hx : x.cells = #[x]) (hy : y.cells = #[y]) (E : Nat → Addr) (m : Int) (w : World) (hE : WireEnv w E m) (h0 : -9223372036854775807 ≤ n) (h1 : n ≤ 9223372036854775807) (hk : k = kOpen ∨ k = kNote ∨ k = kKeep ∨ k = kNews) :
    Calls Tryz.prog 62 #[.agg #[.string ⟨k.toArray⟩, .int .i64 n, x, y]] w fun r w' => r = .returned (.string ⟨(headT k n).toArray⟩) ∧ Below w.heap.size w w' := by
  obtain ⟨l, hl⟩ : ∃ l, Hid (Lib.itoa n = l) := ⟨_, show _ = _ from rfl⟩
  have hlen : l.length ≤ 21 := by rw [← hl.out]; exact Lib.itoa_length_le n (by omega) h1
  have hlen' : ¬ 9223372036854775807 < 5 + l.length := by omega
  have hb := below_alloc w (.cells #[.string ⟨k.toArray⟩, .int .i64 n, x, y] 55)
  obtain ⟨x0, x1, -⟩ := msg_box w (.string ⟨k.toArray⟩) (.int .i64 n) x y (Below.refl _ _)
  obtain ⟨B, hB⟩ : ∃ B, Hid (w.heap.size = B) := ⟨_, show _ = _ from rfl⟩
  obtain ⟨W, hW⟩ : ∃ W, Hid (w.alloc (.cells #[.string ⟨k.toArray⟩, .int .i64 n, x, y] 55) = W) := ⟨_, show _ = _ from rfl⟩
  rw [show w.alloc (.cells #[.string ⟨k.toArray⟩, .int .i64 n, x, y] 55) = W from hW.out] at hb x0 x1
  obtain ⟨HI⟩ : Nonempty (Hid (∀ w', Below W.heap.size W w' → Calls _ _ _ _ _)) := ⟨fun w' hb' => aItoa_any n l hl E m w' (hE.below (hb.trans (hb'.mono hb.size))).at1 h0 h1⟩
  obtain ⟨HB⟩ : Nonempty (Hid (Below w.heap.size w W)) := ⟨hb⟩
  rw [show w.heap.size = B from hB.out] at x0 x1
  obtain ⟨HX⟩ : Nonempty (Hid (W.cell? ⟨B, 0, none⟩ = some (.string ⟨k.toArray⟩) ∧ W.cell? ⟨B, 1, none⟩ = some (.int .i64 n))) := ⟨⟨x0, x1⟩⟩
  clear hE hb x0 x1
  by_cases hOpen : k = kOpen
  · subst hOpen
    obtain ⟨HKC⟩ : Nonempty (Hid (∀ w', Below W.heap.size W w' → w'.cell? ⟨B, 0, none⟩ = some (.string ⟨#[111, 112, 101, 110]⟩) ∧ w'.cell? ⟨B, 1, none⟩ = some (.int .i64 n))) := ⟨fun w' hb => ⟨cell_kept hb HX.out.1, cell_kept hb HX.out.2⟩⟩
    have HF : Hid (headT kOpen n = [111, 112, 101, 110, 32] ++ l) := by
      show _ = _
      unfold headT
      rw [if_pos (by simp), hl.out]; rfl
    rw [HF.out]
    unfold kOpen at *
    clear HX HF
    go_enter Tryz.func62, Tryz.ntmps62
    go_wp2
    rw [show w.alloc (.cells #[.string ⟨#[111, 112, 101, 110]⟩, .int .i64 n, x, y] 55) = W from hW.out, show w.heap.size = B from hB.out]
    refine wp_region_held_drew (S := (fun w' => w'.cell? ⟨B, 0, none⟩ = some (.string ⟨#[111, 112, 101, 110]⟩) ∧ w'.cell? ⟨B, 1, none⟩ = some (.int .i64 n))) (by kernel_rfl) ?_ (fun hHeld => ?_)
    · exact HKC.out _ (Below.drew (Below.refl _ _))
    refine wpAnyH_take (i := 0) (v := ?_) rfl (by kernel_rfl) (by kernel_rfl) (by kernel_rfl) (fun _ _ _ h => h) (Or.inl ⟨by rfl, ?_⟩) (by assumption) ?_
    rotate_left
    · (intro w hSw; (try dsimp only at hSw); go_simp; try (with_reducible rfl))
    try simp only [Act.put, List.setIfInBounds_toArray, List.set_cons_zero, List.set_cons_succ, List.getElem_toArray, List.getElem_cons_zero, List.getElem_cons_succ]
    refine wpAnyH_take (i := 1) (v := ?_) rfl (by kernel_rfl) (by kernel_rfl) (by kernel_rfl) (fun _ _ _ h => h) (Or.inl ⟨by rfl, ?_⟩) (by assumption) ?_
    rotate_left
    · (intro w hSw; (try dsimp only at hSw); go_simp; try (with_reducible rfl))
    try simp only [Act.put, List.setIfInBounds_toArray, List.set_cons_zero, List.set_cons_succ, List.getElem_toArray, List.getElem_cons_zero, List.getElem_cons_succ]
    refine wpAnyH_take (i := 2) (v := ?_) rfl (by kernel_rfl) (by kernel_rfl) (by kernel_rfl) (fun _ _ _ h => h) (Or.inl ⟨by rfl, ?_⟩) (by assumption) ?_
    rotate_left
    · (intro w hSw; (try dsimp only at hSw); go_simp; try (with_reducible rfl))
    try simp only [Act.put, List.setIfInBounds_toArray, List.set_cons_zero, List.set_cons_succ, List.getElem_toArray, List.getElem_cons_zero, List.getElem_cons_succ]
    refine wpAnyH_take (i := 3) (v := ?_) rfl (by kernel_rfl) (by kernel_rfl) (by kernel_rfl) (fun _ _ _ h => h) (Or.inl ⟨by rfl, ?_⟩) (by assumption) ?_
    rotate_left
    · (intro w hSw; (try dsimp only at hSw); go_simp; try (with_reducible rfl))
    try simp only [Act.put, List.setIfInBounds_toArray, List.set_cons_zero, List.set_cons_succ, List.getElem_toArray, List.getElem_cons_zero, List.getElem_cons_succ]
    refine wpAnyH_take (i := 4) (v := ?_) rfl (by kernel_rfl) (by kernel_rfl) (by kernel_rfl) (fun _ _ _ h => h) (Or.inl ⟨by rfl, ?_⟩) (by assumption) ?_
    rotate_left
    · (intro w hSw; (try dsimp only at hSw); go_simp; try (with_reducible rfl))
    try simp only [Act.put, List.setIfInBounds_toArray, List.set_cons_zero, List.set_cons_succ, List.getElem_toArray, List.getElem_cons_zero, List.getElem_cons_succ]
    refine wpAnyH_ready (rs := [5]) (by kernel_rfl) (by simp) ?_
    refine AllReadyH.cons rfl (fun K hK => ?_) AllReadyH.nil
    go_simp
    refine (HI.out _ (Below.drew (Below.refl _ _))).mono ?_
    rintro e w1 ⟨rfl, hb1⟩
    have hKeep := HKC.out _ ((Below.drew (Below.refl _ _)).trans hb1)
    obtain ⟨HB1⟩ : Nonempty (Hid (Below W.heap.size W w1)) := ⟨(Below.drew (Below.refl _ _)).trans hb1⟩
    clear hb1 hHeld
    refine hK.out _ _ ?_ (fun hHeld => ?_)
    · exact hKeep
    clear hK K
    try simp only [Act.put, List.setIfInBounds_toArray, List.set_cons_zero, List.set_cons_succ, List.getElem_toArray, List.getElem_cons_zero, List.getElem_cons_succ]
    refine wpAnyH_take (i := 6) (v := ?_) rfl (by kernel_rfl) (by kernel_rfl) (by kernel_rfl) (fun _ _ _ h => h) (Or.inl ⟨by rfl, ?_⟩) (by assumption) ?_
    rotate_left
    · (intro w hSw; (try dsimp only at hSw); go_simp; try (with_reducible rfl))
    try simp only [Act.put, List.setIfInBounds_toArray, List.set_cons_zero, List.set_cons_succ, List.getElem_toArray, List.getElem_cons_zero, List.getElem_cons_succ]
    refine wpAnyH_take (i := 7) (v := ?_) rfl (by kernel_rfl) (by kernel_rfl) (by kernel_rfl) (fun _ _ _ h => h) (Or.inl ⟨by rfl, ?_⟩) (by assumption) ?_
    rotate_left
    · (intro w hSw; (try dsimp only at hSw); go_simp; try (with_reducible rfl))
    try simp only [Act.put, List.setIfInBounds_toArray, List.set_cons_zero, List.set_cons_succ, List.getElem_toArray, List.getElem_cons_zero, List.getElem_cons_succ]
    refine wpAnyH_done (by kernel_rfl) ?_ _
    go_wp2
    go_ret
    exact ⟨ret_str (by apply ByteArray.ext; simp [ByteArray.data_append]), HB.out.trans (HB1.out.mono HB.out.size)⟩
  by_cases hNote : k = kNote
  · subst hNote
    obtain ⟨HKC⟩ : Nonempty (Hid (∀ w', Below W.heap.size W w' → w'.cell? ⟨B, 0, none⟩ = some (.string ⟨#[110, 111, 116, 101]⟩) ∧ w'.cell? ⟨B, 1, none⟩ = some (.int .i64 n))) := ⟨fun w' hb => ⟨cell_kept hb HX.out.1, cell_kept hb HX.out.2⟩⟩
    have HF : Hid (headT kNote n = [110, 111, 116, 101, 32] ++ l) := by
      show _ = _
      unfold headT
      rw [if_pos (by simp), hl.out]; rfl
    rw [HF.out]
    unfold kNote at *
    clear HX HF
    go_enter Tryz.func62, Tryz.ntmps62
    go_wp2
    rw [show w.alloc (.cells #[.string ⟨#[110, 111, 116, 101]⟩, .int .i64 n, x, y] 55) = W from hW.out, show w.heap.size = B from hB.out]
    refine wp_region_held_drew (S := (fun w' => w'.cell? ⟨B, 0, none⟩ = some (.string ⟨#[110, 111, 116, 101]⟩) ∧ w'.cell? ⟨B, 1, none⟩ = some (.int .i64 n))) (by kernel_rfl) ?_ (fun hHeld => ?_)
    · exact HKC.out _ (Below.drew (Below.refl _ _))
    refine wpAnyH_take (i := 0) (v := ?_) rfl (by kernel_rfl) (by kernel_rfl) (by kernel_rfl) (fun _ _ _ h => h) (Or.inl ⟨by rfl, ?_⟩) (by assumption) ?_
    rotate_left
    · (intro w hSw; (try dsimp only at hSw); go_simp; try (with_reducible rfl))
    try simp only [Act.put, List.setIfInBounds_toArray, List.set_cons_zero, List.set_cons_succ, List.getElem_toArray, List.getElem_cons_zero, List.getElem_cons_succ]
    refine wpAnyH_take (i := 1) (v := ?_) rfl (by kernel_rfl) (by kernel_rfl) (by kernel_rfl) (fun _ _ _ h => h) (Or.inl ⟨by rfl, ?_⟩) (by assumption) ?_
    rotate_left
    · (intro w hSw; (try dsimp only at hSw); go_simp; try (with_reducible rfl))
    try simp only [Act.put, List.setIfInBounds_toArray, List.set_cons_zero, List.set_cons_succ, List.getElem_toArray, List.getElem_cons_zero, List.getElem_cons_succ]
    refine wpAnyH_take (i := 2) (v := ?_) rfl (by kernel_rfl) (by kernel_rfl) (by kernel_rfl) (fun _ _ _ h => h) (Or.inl ⟨by rfl, ?_⟩) (by assumption) ?_
    rotate_left
    · (intro w hSw; (try dsimp only at hSw); go_simp; try (with_reducible rfl))
    try simp only [Act.put, List.setIfInBounds_toArray, List.set_cons_zero, List.set_cons_succ, List.getElem_toArray, List.getElem_cons_zero, List.getElem_cons_succ]
    refine wpAnyH_take (i := 3) (v := ?_) rfl (by kernel_rfl) (by kernel_rfl) (by kernel_rfl) (fun _ _ _ h => h) (Or.inl ⟨by rfl, ?_⟩) (by assumption) ?_
    rotate_left
    · (intro w hSw; (try dsimp only at hSw); go_simp; try (with_reducible rfl))
    try simp only [Act.put, List.setIfInBounds_toArray, List.set_cons_zero, List.set_cons_succ, List.getElem_toArray, List.getElem_cons_zero, List.getElem_cons_succ]
    refine wpAnyH_take (i := 4) (v := ?_) rfl (by kernel_rfl) (by kernel_rfl) (by kernel_rfl) (fun _ _ _ h => h) (Or.inl ⟨by rfl, ?_⟩) (by assumption) ?_
    rotate_left
    · (intro w hSw; (try dsimp only at hSw); go_simp; try (with_reducible rfl))
    try simp only [Act.put, List.setIfInBounds_toArray, List.set_cons_zero, List.set_cons_succ, List.getElem_toArray, List.getElem_cons_zero, List.getElem_cons_succ]
    refine wpAnyH_ready (rs := [5]) (by kernel_rfl) (by simp) ?_
    refine AllReadyH.cons rfl (fun K hK => ?_) AllReadyH.nil
    go_simp
    refine (HI.out _ (Below.drew (Below.refl _ _))).mono ?_
    rintro e w1 ⟨rfl, hb1⟩
    have hKeep := HKC.out _ ((Below.drew (Below.refl _ _)).trans hb1)
    obtain ⟨HB1⟩ : Nonempty (Hid (Below W.heap.size W w1)) := ⟨(Below.drew (Below.refl _ _)).trans hb1⟩
    clear hb1 hHeld
    refine hK.out _ _ ?_ (fun hHeld => ?_)
    · exact hKeep
    clear hK K
    try simp only [Act.put, List.setIfInBounds_toArray, List.set_cons_zero, List.set_cons_succ, List.getElem_toArray, List.getElem_cons_zero, List.getElem_cons_succ]
    refine wpAnyH_take (i := 6) (v := ?_) rfl (by kernel_rfl) (by kernel_rfl) (by kernel_rfl) (fun _ _ _ h => h) (Or.inl ⟨by rfl, ?_⟩) (by assumption) ?_
    rotate_left
    · (intro w hSw; (try dsimp only at hSw); go_simp; try (with_reducible rfl))
    try simp only [Act.put, List.setIfInBounds_toArray, List.set_cons_zero, List.set_cons_succ, List.getElem_toArray, List.getElem_cons_zero, List.getElem_cons_succ]
    refine wpAnyH_take (i := 7) (v := ?_) rfl (by kernel_rfl) (by kernel_rfl) (by kernel_rfl) (fun _ _ _ h => h) (Or.inl ⟨by rfl, ?_⟩) (by assumption) ?_
    rotate_left
    · (intro w hSw; (try dsimp only at hSw); go_simp; try (with_reducible rfl))
    try simp only [Act.put, List.setIfInBounds_toArray, List.set_cons_zero, List.set_cons_succ, List.getElem_toArray, List.getElem_cons_zero, List.getElem_cons_succ]
    refine wpAnyH_done (by kernel_rfl) ?_ _
    go_wp2
    go_ret
    exact ⟨ret_str (by apply ByteArray.ext; simp [ByteArray.data_append]), HB.out.trans (HB1.out.mono HB.out.size)⟩
  have HF : Hid (headT k n = k) := by
    show _ = _
    unfold headT
    rw [if_neg (by rintro (h | h); exact hOpen h; exact hNote h)]
  rw [HF.out]
  obtain ⟨HX2⟩ : Nonempty (Hid _) := ⟨HX.out⟩
  have hk2 : k = kKeep ∨ k = kNews := by
    rcases hk with h | h | h | h
    · exact absurd h hOpen
    · exact absurd h hNote
    · exact .inl h
    · exact .inr h
  clear HX HF hOpen hNote hk HI hl hlen hlen'
  rcases hk2 with rfl | rfl
  · obtain ⟨x0, x1⟩ := HX2.out
    clear HX2
    unfold kKeep at *
    go_enter Tryz.func62, Tryz.ntmps62
    go_wp2
    rw [show w.alloc (.cells #[.string ⟨#[107, 101, 101, 112]⟩, .int .i64 n, x, y] 55) = W from hW.out, show w.heap.size = B from hB.out]
    go_wp2
    go_ret
    exact ⟨rfl, by rw [← show w.heap.size = B from hB.out]; exact HB.out⟩
  · obtain ⟨x0, x1⟩ := HX2.out
    clear HX2
    unfold kNews at *
    go_enter Tryz.func62, Tryz.ntmps62
    go_wp2
    rw [show w.alloc (.cells #[.string ⟨#[110, 101, 119, 115]⟩, .int .i64 n, x, y] 55) = W from hW.out, show w.heap.size = B from hB.out]
    go_wp2
    go_ret
    exact ⟨rfl, by rw [← show w.heap.size = B from hB.out]; exact HB.out⟩
end Go.Proofs.YtbfdgflbflajdaaGreatDoor

namespace Go.Proofs.YtbfdgflbflajdaaGreatDoor
open Go.RowKit

theorem ownsRow_kind {w : World} {base : Nat} {e : TypeId} {size : Nat} {v : Value} {n : Nat} {xs : List Value} (h : w.ownsRow base e size v n xs) (k : Nat) (hk : v.ownBlock = some k) : ∃ c fz, w.heap[k]? = some (.cells c e fz) := by
  rcases h.2 with ⟨rfl, -⟩ | ⟨g, cap, cur, rfl, -, hg, -⟩
  · simp [Value.ownBlock] at hk
  · simp [Value.ownBlock] at hk
    subst hk
    exact ⟨_, _, hg⟩
theorem op_pushS {P : Program} {W : World} {o : Oper} {a : Act} {K : Act → World → Prop} {Q : Exit → Act → World → Prop} (s x : Operand) (t : TypeId)
    (ho : o.op = .call { callee := .builtin .append, args := #[s, x], argTypes := #[t, t] })
    (base : Nat) (i : TypeInfo) (ht : P.underlying t = some (.slice 9)) (hi : P.info? 9 = some i) (hz : i.zero = some (.string ⟨#[]⟩)) (hsize : i.size = 1) (hby : i.bytes = 16)
    (v : Value) (O : List (List UInt8)) (hs : a.eval s = v) (hown : W.ownsRow base 9 1 v O.length (O.map strV)) (y : ByteArray) (y' : List UInt8) (hy : y = ⟨y'.toArray⟩) (g : Nat) (hx : a.eval x = .slice (some ⟨g, 0, none⟩) 1 1) (hg : W.heap.size = g) (O' : List (List UInt8)) (hO' : Hid (O ++ [y'] = O'))
    (hO : O.length ≤ 1099511627776) (hbase : base ≤ W.heap.size)
    (h : ∀ v' w', w'.ownsRow base 9 1 v' O'.length (O'.map strV) → Below base W w' → Keeps W w' v v' → K (a.put o.dst v') w') : o.wp P a (W.alloc (.cells #[.string y] 9)) K Q := by
  subst hg
  subst hy
  refine wp_append_own _ s x t ho base 9 i (.string ⟨#[]⟩) 1 16 ht hi hz hsize hby rfl (by decide) v O.length (O.map strV) hs (hown.alloc _) ⟨W.heap.size, 0, none⟩ 1 1 [strV y'] hx rfl ?_ ?_ ?_ ?_ ?_ ?_
  · intro j u hj
    match j, hj with
    | 0, hj => simp at hj; subst hj; simp [Addr.add, strV]
  · intro u hu; simp at hu; subst hu; rfl
  · unfold maxLen; omega
  · omega
  · simp; omega
  · intro v' w1 hown' hgrow hnn
    rw [← hO'.out] at h
    have R := rel_cut (x := y') hbase hown (Below.refl base W) hown' hgrow
    exact h v' w1 R.1 R.2 ⟨fun k hk hne => by rw [hgrow.block k (by simp; omega) hne]; exact Below.heap_alloc W _ k hk, fun e => by have := (hnn.1 e).2; omega⟩
theorem wp_pushS {P : Program} {W : World} {ops : Array Oper} {rest : List Oper} {o : Oper} {a : Act} {Q : Exit → Act → World → Prop} (hgd : o.guard = none) (s x : Operand) (t : TypeId)
    (ho : o.op = .call { callee := .builtin .append, args := #[s, x], argTypes := #[t, t] })
    (base : Nat) (i : TypeInfo) (ht : P.underlying t = some (.slice 9)) (hi : P.info? 9 = some i) (hz : i.zero = some (.string ⟨#[]⟩)) (hsize : i.size = 1) (hby : i.bytes = 16)
    (v : Value) (O : List (List UInt8)) (hs : a.eval s = v) (hown : W.ownsRow base 9 1 v O.length (O.map strV)) (y : ByteArray) (y' : List UInt8) (hy : y = ⟨y'.toArray⟩) (g : Nat) (hx : a.eval x = .slice (some ⟨g, 0, none⟩) 1 1) (hg : W.heap.size = g) (O' : List (List UInt8)) (hO' : Hid (O ++ [y'] = O'))
    (hO : O.length ≤ 1099511627776) (hbase : base ≤ W.heap.size)
    (h : ∀ v' w', w'.ownsRow base 9 1 v' O'.length (O'.map strV) → Below base W w' → Keeps W w' v v' → wpList P ops Q rest (a.put o.dst v') w') : wpList P ops Q (o :: rest) a (W.alloc (.cells #[.string y] 9)) :=
  wpList_plain hgd fun _ hK => op_pushS s x t ho base i ht hi hz hsize hby v O hs hown y y' hy g hx hg O' hO' hO hbase fun v' w' h2 h3 h4 => hK _ _ (h v' w' h2 h3 h4)

def dropT (p : Int × Int) : List UInt8 := [45, 32] ++ txtP p.1 p.2
def addT (r : Ro) : List UInt8 := [43, 32] ++ txtP r.dst.1 r.dst.2 ++ [32] ++ textA r.att
def linesM (M : Ms) : List (List UInt8) := headT M.kind M.n :: (M.drops.map dropT ++ M.adds.map addT)
def textM (M : Ms) : List UInt8 := Lib.join (linesM M) [10] ++ [10]
theorem itoa_le21 (n : Int) (h0 : 0 ≤ n) (h1 : n ≤ 4294967296) : (Lib.itoa n).length ≤ 21 := Lib.itoa_length_le n (by omega) (by omega)
theorem txtP_len {a n : Int} (h : rt a n = true) : (txtP a n).length ≤ 200 := by
  obtain ⟨⟨h1, h2⟩, ⟨h3, h4⟩, -⟩ := (rt_iff a n).1 h
  unfold txtP txt4
  have := itoa_le21 (a / 16777216) (by omega) (by omega)
  have := itoa_le21 (a / 65536 % 256) (by omega) (by omega)
  have := itoa_le21 (a / 256 % 256) (by omega) (by omega)
  have := itoa_le21 (a % 256) (by omega) (by omega)
  have := itoa_le21 n (by omega) (by omega)
  simp only [List.length_append, List.length_cons]
  omega
theorem textA_len {A : At} (hA : RightA A) : (textA A).length ≤ 1000 := by
  have rp : ∀ x ∈ A.path, -9223372036854775807 ≤ x ∧ x ≤ 9223372036854775807 := fun x hx => by have := hA.sys x hx; omega
  have rt : ∀ x ∈ A.tags, -9223372036854775807 ≤ x ∧ x ≤ 9223372036854775807 := fun x hx => by have := hA.tag x hx; omega
  have := joinN_len 45 A.path rp
  have := joinN_len 44 A.tags rt
  have := hA.path
  have := hA.tags
  have := itoa_le21 A.pref hA.pref.1 (by have := hA.pref; omega)
  have := itoa_le21 A.med hA.med.1 (by have := hA.med; omega)
  have := itoa_le21 A.org hA.org.1 (by have := hA.org; omega)
  unfold textA
  simp only [List.length_append, List.length_cons, List.length_nil]
  omega
theorem RightM.rattr {M : Ms} (h : RightM M) {r : Ro} (hr : r ∈ M.adds) : RightA r.att := right_of_fault (by have := (h.att r hr).1; omega)
theorem RightM.rdst {M : Ms} (h : RightM M) {r : Ro} (hr : r ∈ M.adds) : Go.Proofs.YtbfdgflbflajdaaGreatDoor.rt r.dst.1 r.dst.2 = true := h.adds.rt _ (List.mem_map_of_mem hr)
theorem RightM.mod {M : Ms} (h : RightM M) : Mod M.adds := fun r hr => by
  have h9 := h.rattr hr
  have := h9.path; have := h9.tags; omega
theorem lens_le (L : List (List UInt8)) (N : Nat) (h : ∀ x ∈ L, x.length ≤ N) : Lib.lens L ≤ N * L.length := by
  induction L with
  | nil => simp [Lib.lens]
  | cons x L ih =>
    have h1 := h x (by simp)
    have h2 := ih (fun y hy => h y (by simp [hy]))
    simp only [Lib.lens, List.map_cons, List.sum_cons, List.length_cons, Nat.mul_add] at *
    omega
theorem lines_len {M : Ms} (h : RightM M) : ∀ x ∈ linesM M, x.length ≤ 2000 := by
  intro x hx
  unfold linesM at hx
  rcases List.mem_cons.1 hx with rfl | hx
  · obtain ⟨hk, h0, h1, -⟩ := headC_zero h.head
    unfold headT
    have := itoa_le21 M.n h0 (by omega)
    split
    · rcases hk with e | e | e | e <;> rw [e] <;> simp [kOpen, kNote, kKeep, kNews] <;> omega
    · rcases hk with e | e | e | e <;> rw [e] <;> simp [kOpen, kNote, kKeep, kNews]
  · rcases List.mem_append.1 hx with hx | hx
    · obtain ⟨p, hp, rfl⟩ := List.mem_map.1 hx
      have := txtP_len (h.drops.rt p hp)
      unfold dropT
      simp only [List.length_append, List.length_cons, List.length_nil]
      omega
    · obtain ⟨r, hr, rfl⟩ := List.mem_map.1 hx
      have := txtP_len (h.rdst hr)
      have := textA_len (h.rattr hr)
      unfold addT
      simp only [List.length_append, List.length_cons, List.length_nil]
      omega
theorem linesM_len {M : Ms} (h : RightM M) : 1 ≤ (linesM M).length ∧ (linesM M).length ≤ 121 := by
  have := h.len
  unfold linesM
  simp
  omega
theorem join_len {M : Ms} (h : RightM M) : (Lib.join (linesM M) [10]).length ≤ 300000 := by
  have h1 := linesM_len h
  have h2 := lines_len h
  cases e : linesM M with
  | nil => simp [Lib.join]
  | cons x r =>
    rw [e] at h1 h2
    rw [Lib.join_length]
    have := lens_le (x :: r) 2000 h2
    simp only [List.length_cons, List.length_nil] at *
    omega
end Go.Proofs.YtbfdgflbflajdaaGreatDoor

namespace Go.Proofs.YtbfdgflbflajdaaGreatDoor
open Go.RowKit

theorem parts_short (c : UInt8) (cur r : List UInt8) : ∀ x ∈ parts c cur r, x.length ≤ cur.length + r.length := by
  induction r generalizing cur with
  | nil => intro x hx; simp [parts] at hx; subst hx; simp
  | cons y r ih =>
    intro x hx
    unfold parts at hx
    split at hx
    · rcases List.mem_cons.1 hx with rfl | hx
      · simp
      · have := ih [] x hx; simp at this ⊢; omega
    · have := ih (cur ++ [y]) x hx; simp at this ⊢; omega
/-- a list's text says numbers (or none). -/
def unlOk (c : UInt8) (l : List UInt8) : Bool := if l = [45] then true else allNum (parts c [] l)
/-- its numbers. -/
def unlN (c : UInt8) (l : List UInt8) : List Int := if l = [45] then [] else (parts c [] l).map numR
/-- what a row of numbers that was read is: its numbers where they are all right, else none. -/
def ReadRow (w : World) (B : Nat) (v : Value) (ok : Bool) (N : List Int) : Prop :=
  (ok = true ∧ w.ownsRow B 3 1 v N.length (N.map intV)) ∨ (ok = false ∧ v = .slice none 0 0)
theorem ReadRow.below {w w' : World} {B : Nat} {v : Value} {ok : Bool} {N : List Int} (h : ReadRow w B v ok N) (hb : Below w.heap.size w w') : ReadRow w' B v ok N := by
  rcases h with ⟨a, b⟩ | ⟨a, b⟩
  · refine .inl ⟨a, b.1, ?_⟩
    rcases b.2 with h2 | ⟨g, cap, cur, rfl, h3, hg, r⟩
    · exact .inl h2
    · exact .inr ⟨g, cap, cur, rfl, h3, by rw [hb.block g (b.lt g rfl).2]; exact hg, r⟩
  · exact .inr ⟨a, b⟩

set_option linter.unusedVariables false in
set_option maxRecDepth 100000 in
set_option maxHeartbeats 4000000 in
theorem rUnlist_any (s : ByteArray) (c : UInt8) (w : World) (hs : s.size < 4294967281) :
    Calls Tryz.prog 59 #[.string s, .int .u8 (c.toNat : Int)] w fun e w' => (∃ v, e = .returned (.tuple #[v, .bool (unlOk c s.data.toList)]) ∧ ReadRow w' w.heap.size v (unlOk c s.data.toList) (unlN c s.data.toList)) ∧ Below w.heap.size w w' := by
  by_cases h : s = ⟨#[45]⟩
  · subst h
    go_enter Tryz.func59, Tryz.ntmps59
    go_wp2_with fail
    exact bodyPost_ret (v := .tuple #[.slice none 0 0, .bool true]) (by simp [results, Tryz.results59, go_sem]) rfl ⟨⟨.slice none 0 0, rfl, .inl ⟨rfl, World.ownsRow_nil _ _ _ _⟩⟩, Below.refl _ _⟩
  · have hl : ¬ s.data.toList = [45] := by
      intro e
      apply h
      obtain ⟨⟨l⟩⟩ := s
      simp only at e
      subst e
      rfl
    have he : (s.toList == [45]) = false := by rw [ByteArray.toList_eq, beq_eq_false_iff_ne]; exact hl
    have e1 : unlOk c s.data.toList = allNum (parts c [] s.data.toList) := by unfold unlOk; rw [if_neg hl]
    have e2 : unlN c s.data.toList = (parts c [] s.data.toList).map numR := by unfold unlN; rw [if_neg hl]
    rw [e1, e2]
    obtain ⟨HC⟩ : Nonempty (Hid (Calls _ _ _ _ _)) := ⟨rCut_any s c w hs⟩
    have hp := parts_length c [] s.data.toList
    rw [len_data] at hp
    have HX : Hid (∀ x ∈ parts c [] s.data.toList, x.length ≤ maxLen) := fun x hx => by
      have := parts_short c [] s.data.toList x hx
      rw [len_data] at this
      unfold maxLen
      simp at this
      omega
    obtain ⟨L, hL⟩ : ∃ L, Hid (parts c [] s.data.toList = L) := ⟨_, show _ = _ from rfl⟩
    rw [show parts c [] s.data.toList = L from hL.out] at HC hp HX ⊢
    clear e1 e2 hl h
    go_enter Tryz.func59, Tryz.ntmps59
    go_wp2_with fail
    refine HC.out.mono ?_
    rintro e w1 ⟨⟨v, rfl, hown⟩, hb1⟩
    obtain ⟨q, cap, rfl, -, -, hq⟩ := own_strs hown
    obtain ⟨HN⟩ : Nonempty (Hid (Calls _ _ _ _ _)) := ⟨rNumbersOf_any q L _ cap w1 hq rfl (by omega) HX.out⟩
    obtain ⟨HB1⟩ : Nonempty (Hid (Below w.heap.size w w1)) := ⟨hb1⟩
    clear HC hown hq hb1
    go_wp2_with fail
    refine HN.out.mono ?_
    rintro e w2 ⟨⟨v, rfl, hv⟩, hb2⟩
    obtain ⟨HV⟩ : Nonempty (Hid (ReadRow w2 w.heap.size v (allNum L) (L.map numR) ∧ Below w.heap.size w w2)) := ⟨⟨by
      rcases hv with ⟨a, b⟩ | ⟨a, b⟩
      · refine .inl ⟨a, ?_⟩
        rw [List.length_map]
        exact ⟨b.1, b.2.imp id fun ⟨g, cap, cur, h1, h2, h3⟩ => ⟨g, cap, cur, h1, Nat.le_trans HB1.out.size h2, h3⟩⟩
      · exact .inr ⟨a, b⟩, HB1.out.trans (hb2.mono HB1.out.size)⟩⟩
    obtain ⟨ok, hok⟩ : ∃ b, Hid (allNum L = b) := ⟨_, show _ = _ from rfl⟩
    rw [show allNum L = ok from hok.out] at HV ⊢
    clear HN hv hb2
    go_wp2_with fail
    exact bodyPost_ret (v := .tuple #[v, .bool ok]) (by simp [results, Tryz.results59, go_sem]) rfl ⟨⟨v, by rw [hok.out], by rw [hok.out]; exact HV.out.1⟩, HV.out.2⟩
end Go.Proofs.YtbfdgflbflajdaaGreatDoor

namespace Go.Proofs.YtbfdgflbflajdaaGreatDoor
open Go.RowKit

theorem aParts_miss (c : UInt8) : ∀ (cur l : List UInt8), c ∉ l → parts c cur l = [cur ++ l]
  | cur, [], _ => by simp [parts]
  | cur, x :: r, h => by
    have h1 : ¬ x = c := fun e => h (by simp [e])
    unfold parts
    rw [if_neg h1, aParts_miss c (cur ++ [x]) r (fun e => h (by simp [e]))]
    simp
theorem aParts_hit (c : UInt8) : ∀ (cur a b : List UInt8), c ∉ a → parts c cur (a ++ c :: b) = (cur ++ a) :: parts c [] b
  | cur, [], b, _ => by simp [parts]
  | cur, x :: r, b, h => by
    have h1 : ¬ x = c := fun e => h (by simp [e])
    show parts c cur (x :: (r ++ c :: b)) = _
    conv => lhs; unfold parts
    rw [if_neg h1, aParts_hit c (cur ++ [x]) r b (fun e => h (by simp [e]))]
    simp

/-- What the digits of a number are good for. -/
structure Digs (l : List UInt8) (u : Nat) : Prop where
  all : l.all digB = true
  val : valD l = u
  pos : 1 ≤ l.length
  lead : 10 ≤ u → ∀ x, l.head? = some x → x ≠ 48
  one : u < 10 → l.length = 1
theorem ofNat_dig' (d : Nat) (h : d < 10) : (UInt8.ofNat (48 + d)).toNat = 48 + d := by simp; omega
theorem digs_of : ∀ (u : Nat), Digs (Lib.decDigits u) u := by
  intro u
  induction u using Nat.strongRecOn with
  | _ u ih =>
    by_cases h : u < 10
    · rw [Lib.decDigits_one h]
      have hd := ofNat_dig' u h
      refine ⟨?_, ?_, by simp, fun h' => by omega, fun _ => by simp⟩
      · simp only [List.all_cons, List.all_nil, Bool.and_true, digB, hd, decide_eq_true_eq]; omega
      · simp only [valD, List.foldl_cons, List.foldl_nil, hd]; omega
    · rw [decDigits_more u h]
      have hr := ih (u / 10) (by omega)
      have hd := ofNat_dig' (u % 10) (by omega)
      refine ⟨?_, ?_, by simp, fun _ x hx => ?_, fun h' => absurd h' h⟩
      · rw [List.all_append, hr.all]
        simp only [List.all_cons, List.all_nil, Bool.and_true, Bool.true_and, digB, hd, decide_eq_true_eq]; omega
      · rw [valD_snoc, hr.val, hd]; omega
      · have hp := hr.pos
        have hx' : (Lib.decDigits (u / 10)).head? = some x := by
          cases hl : Lib.decDigits (u / 10) with
          | nil => rw [hl] at hp; simp at hp
          | cons y r => rw [hl] at hx; simpa using hx
        by_cases h10 : 10 ≤ u / 10
        · exact hr.lead h10 x hx'
        · rw [Lib.decDigits_one (by omega)] at hx'
          simp only [List.head?_cons, Option.some.injEq] at hx'
          subst hx'
          intro e
          have := ofNat_dig' (u / 10) (by omega)
          rw [e] at this
          have h48 : (48 : UInt8).toNat = 48 := rfl
          omega
theorem decDigits_short (u : Nat) (h : u ≤ 9999) : (Lib.decDigits u).length ≤ 4 := by
  by_cases h1 : u < 10
  · rw [Lib.decDigits_one h1]; simp
  rw [decDigits_more u h1]
  by_cases h2 : u / 10 < 10
  · rw [Lib.decDigits_one h2]; simp
  rw [decDigits_more _ h2]
  by_cases h3 : u / 10 / 10 < 10
  · rw [Lib.decDigits_one h3]; simp
  rw [decDigits_more _ h3, Lib.decDigits_one (by omega)]; simp
theorem itoa_dec (n : Int) (h : 0 ≤ n) : Lib.itoa n = Lib.decDigits n.toNat := by
  obtain ⟨u, rfl⟩ := Int.eq_ofNat_of_zero_le h
  rw [Lib.itoa_nonneg]; rfl
/-- the text of a number from 0 to 9999: digits alone, read as they were written. -/
structure NumText (l : List UInt8) (n : Int) : Prop where
  ok : okNum l = true
  val : numR l = n
  dig : ∀ c ∈ l, digB c = true
  pos : 1 ≤ l.length
theorem itoa_text (n : Int) (h0 : 0 ≤ n) (h1 : n ≤ 9999) : NumText (Lib.itoa n) n := by
  rw [itoa_dec n h0]
  have hd := digs_of n.toNat
  have hs := decDigits_short n.toNat (by omega)
  have ok : okNum (Lib.decDigits n.toNat) = true := by
    refine okNum_yes _ hd.pos (by omega) ?_ hd.all
    rintro ⟨a, b⟩
    by_cases h : n.toNat < 10
    · have := hd.one h; omega
    · exact hd.lead (by omega) _ a rfl
  refine ⟨ok, ?_, fun c hc => List.all_eq_true.1 hd.all c hc, hd.pos⟩
  rw [numR_yes ok, hd.val]; omega
theorem NumText.not {l : List UInt8} {n : Int} (h : NumText l n) (c : UInt8) (hc : c.toNat < 48) : c ∉ l := fun hm => by
  have := h.dig c hm
  simp [digB] at this
  omega

/-- the words of a joined list are its numbers' texts. -/
theorem parts_flat (c : UInt8) (hc : c.toNat < 48) : ∀ (x : Int) (r : List Int), (∀ y ∈ x :: r, 0 ≤ y ∧ y ≤ 9999) → parts c [] (joinN c (x :: r)) = (x :: r).map Lib.itoa
  | x, [], h => by
    have := (itoa_text x (h x (by simp)).1 (h x (by simp)).2).not c hc
    simp only [joinN, List.flatMap_nil, List.append_nil]
    rw [aParts_miss c [] _ this]; simp
  | x, y :: r, h => by
    have hx := (itoa_text x (h x (by simp)).1 (h x (by simp)).2).not c hc
    have ih := parts_flat c hc y r (fun z hz => h z (by simp at hz ⊢; exact Or.inr hz))
    have e : joinN c (x :: y :: r) = Lib.itoa x ++ c :: joinN c (y :: r) := by simp [joinN]
    rw [e, aParts_hit c [] _ _ hx, ih]; simp
theorem head_text {x : Int} (h0 : 0 ≤ x) (h1 : x ≤ 9999) (r : List UInt8) : Lib.itoa x ++ r ≠ [45] := by
  have h := itoa_text x h0 h1
  intro e
  have : (45 : UInt8) ∈ Lib.itoa x := by
    have hp := h.pos
    cases hl : Lib.itoa x with
    | nil => rw [hl] at hp; simp at hp
    | cons y q =>
      rw [hl] at e
      simp only [List.cons_append, List.cons.injEq] at e
      rw [e.1]; simp
  exact h.not 45 (by decide) this
theorem unl_join (c : UInt8) (hc : c.toNat < 48) (L : List Int) (h : ∀ y ∈ L, 0 ≤ y ∧ y ≤ 9999) : unlOk c (joinN c L) = true ∧ unlN c (joinN c L) = L := by
  cases L with
  | nil => simp [joinN, unlOk, unlN]
  | cons x r =>
    have hne : ¬ joinN c (x :: r) = [45] := head_text (h x (by simp)).1 (h x (by simp)).2 _
    unfold unlOk unlN
    rw [if_neg hne, if_neg hne, parts_flat c hc x r h]
    constructor
    · unfold allNum
      rw [List.all_eq_true]
      intro l hl
      obtain ⟨y, hy, rfl⟩ := List.mem_map.1 hl
      exact (itoa_text y (h y hy).1 (h y hy).2).ok
    · rw [List.map_map]
      conv => rhs; rw [← List.map_id (x :: r)]
      apply List.map_congr_left
      intro y hy
      exact (itoa_text y (h y hy).1 (h y hy).2).val
theorem join_blank (c : UInt8) (hc : c ≠ 32) (L : List Int) (h : ∀ y ∈ L, 0 ≤ y ∧ y ≤ 9999) : (32 : UInt8) ∉ joinN c L := by
  cases L with
  | nil => simp [joinN]
  | cons x r =>
    simp only [joinN, List.mem_append, List.mem_flatMap, not_or]
    refine ⟨(itoa_text x (h x (by simp)).1 (h x (by simp)).2).not 32 (by decide), ?_⟩
    rintro ⟨y, hy, hm⟩
    rcases List.mem_cons.1 hm with e | hm
    · exact hc e.symm
    · exact (itoa_text y (h y (by simp [hy])).1 (h y (by simp [hy])).2).not 32 (by decide) hm

/-- what five words say, and whether they are numbers. -/
def wordsOk : List (List UInt8) → Bool
  | [a, b, c, d, e] => unlOk 45 a && unlOk 44 e && allNum [b, c, d]
  | _ => false
def wordsA : List (List UInt8) → At
  | [a, b, c, d, e] => ⟨unlN 45 a, numR b, numR c, numR d, unlN 44 e⟩
  | _ => noneA
/-- the error's number of a reading, and what is read. -/
def readC (l : List UInt8) : Int := if wordsOk (parts 32 [] l) then (faultA (wordsA (parts 32 [] l))).1 else 1
def readA (l : List UInt8) : At := if readC l = 0 then wordsA (parts 32 [] l) else noneA

theorem parts_text {A : At} (h : RightA A) : parts 32 [] (textA A) = [joinN 45 A.path, Lib.itoa A.pref, Lib.itoa A.med, Lib.itoa A.org, joinN 44 A.tags] := by
  have e : textA A = joinN 45 A.path ++ 32 :: (Lib.itoa A.pref ++ 32 :: (Lib.itoa A.med ++ 32 :: (Lib.itoa A.org ++ 32 :: joinN 44 A.tags))) := by simp [textA]
  have hp : ∀ y ∈ A.path, 0 ≤ y ∧ y ≤ 9999 := fun y hy => by have := h.sys y hy; omega
  have ht : ∀ y ∈ A.tags, 0 ≤ y ∧ y ≤ 9999 := fun y hy => by have := h.tag y hy; omega
  rw [e, aParts_hit 32 [] _ _ (join_blank 45 (by decide) _ hp),
    aParts_hit 32 [] _ _ ((itoa_text A.pref (by have := h.pref; omega) (by have := h.pref; omega)).not 32 (by decide)),
    aParts_hit 32 [] _ _ ((itoa_text A.med (by have := h.med; omega) (by have := h.med; omega)).not 32 (by decide)),
    aParts_hit 32 [] _ _ ((itoa_text A.org (by have := h.org; omega) (by have := h.org; omega)).not 32 (by decide)),
    aParts_miss 32 [] _ (join_blank 44 (by decide) _ ht)]
  simp
theorem words_text {A : At} (h : RightA A) : wordsOk (parts 32 [] (textA A)) = true ∧ wordsA (parts 32 [] (textA A)) = A := by
  rw [parts_text h]
  have hp : ∀ y ∈ A.path, 0 ≤ y ∧ y ≤ 9999 := fun y hy => by have := h.sys y hy; omega
  have ht : ∀ y ∈ A.tags, 0 ≤ y ∧ y ≤ 9999 := fun y hy => by have := h.tag y hy; omega
  have b := itoa_text A.pref (by have := h.pref; omega) (by have := h.pref; omega)
  have c := itoa_text A.med (by have := h.med; omega) (by have := h.med; omega)
  have d := itoa_text A.org (by have := h.org; omega) (by have := h.org; omega)
  obtain ⟨p1, p2⟩ := unl_join 45 (by decide) A.path hp
  obtain ⟨t1, t2⟩ := unl_join 44 (by decide) A.tags ht
  constructor
  · simp [wordsOk, p1, t1, allNum, b.ok, c.ok, d.ok]
  · simp [wordsA, p2, t2, b.val, c.val, d.val]
theorem read_text {A : At} (h : RightA A) : readC (textA A) = 0 ∧ readA (textA A) = A := by
  obtain ⟨a, b⟩ := words_text h
  have : readC (textA A) = 0 := by unfold readC; rw [a, b, fault_of_right h]; rfl
  refine ⟨this, ?_⟩
  unfold readA
  rw [if_pos this, b]
end Go.Proofs.YtbfdgflbflajdaaGreatDoor

namespace Go.Proofs.YtbfdgflbflajdaaGreatDoor
open Go.RowKit

/-- what came of the lines so far. -/
structure Rg where
  kind : List UInt8
  n : Int
  drops : List (Int × Int)
  adds : List Ro
  added : Bool
def rg0 : Rg := ⟨[], 0, [], [], false⟩
def withD (D : List (Int × Int)) (p : Int × Int) : List (Int × Int) := if hasP D p then D else insP p D
def preR (l : List UInt8) : Int × Int × Nat := rdP ⟨l.toArray⟩
def headR (l : List UInt8) : List UInt8 × Int × Bool :=
  if l = kKeep then (kKeep, 0, true) else if l = kNews then (kNews, 0, true)
  else if Lib.hasPrefix l (kOpen ++ [32]) then (kOpen, numOf (l.drop 5), okNum (l.drop 5))
  else if Lib.hasPrefix l (kNote ++ [32]) then (kNote, numOf (l.drop 5), okNum (l.drop 5)) else ([], 0, false)
def dropR (g : Rg) (s : List UInt8) : Option Rg :=
  if g.added = true ∨ (preR s).2.2 ≠ 0 then none else some { g with drops := g.drops ++ [((preR s).1, (preR s).2.1)] }
def addR (g : Rg) (s : List UInt8) : Option Rg :=
  if (Lib.cut s [32]).2.2 = false ∨ (preR (Lib.cut s [32]).1).2.2 ≠ 0 then none
  else if readC (Lib.cut s [32]).2.1 ≠ 0 then some { g with drops := withD g.drops ((preR (Lib.cut s [32]).1).1, (preR (Lib.cut s [32]).1).2.1), added := true }
  else some { g with adds := g.adds ++ [⟨((preR (Lib.cut s [32]).1).1, (preR (Lib.cut s [32]).1).2.1), readA (Lib.cut s [32]).2.1, 0⟩], added := true }
def moreR (g : Rg) (l : List UInt8) : Option Rg :=
  if g.kind ≠ kNews then none
  else if Lib.hasPrefix l [45, 32] then dropR g (l.drop 2)
  else if Lib.hasPrefix l [43, 32] then addR g (l.drop 2) else none
def lineR (g : Rg) (k : Nat) (l : List UInt8) : Option Rg :=
  if k = 0 then (if (headR l).2.2 then some ⟨(headR l).1, (headR l).2.1, [], [], g.added⟩ else none) else moreR g l
def stepR (g : Rg) (k : Nat) (l : List UInt8) : Option Rg :=
  if Lib.hasSuffix l [10] then lineR g k (l.take (l.length - 1)) else none
def runR (g : Rg) (k : Nat) : List (List UInt8) → Option Rg
  | [] => some g
  | l :: r => (stepR g k l).bind fun g' => runR g' (k + 1) r
theorem runR_append (g : Rg) (k : Nat) (L M : List (List UInt8)) : runR g k (L ++ M) = (runR g k L).bind fun g' => runR g' (k + L.length) M := by
  induction L generalizing g k with
  | nil => simp [runR]
  | cons x L ih =>
    simp only [List.cons_append, runR, Option.bind_assoc]
    congr 1
    funext g'
    rw [ih]
    congr 2
    funext g''
    congr 1
    simp; omega
theorem runR_succ (L : List (List UInt8)) (k : Nat) (h : k < L.length) : runR rg0 0 (L.take (k + 1)) = (runR rg0 0 (L.take k)).bind fun g => stepR g k L[k] := by
  rw [List.take_succ_eq_append_getElem h, runR_append]
  have hl : (L.take k).length = k := by simp; omega
  rw [hl]
  congr 1
  funext g
  simp [runR]

/-- what every state keeps. -/
structure RgOk (g : Rg) (k : Nat) : Prop where
  len : g.drops.length + g.adds.length ≤ k
  att : ∀ r ∈ g.adds, RightA r.att ∧ r.frm = 0
theorem withD_len (D : List (Int × Int)) (p : Int × Int) : (withD D p).length ≤ D.length + 1 := by
  unfold withD
  split
  · omega
  · rw [insP_len]; exact Nat.le_refl _
theorem readA_right {l : List UInt8} (h : readC l = 0) : RightA (readA l) := by
  unfold readA
  rw [if_pos h]
  unfold readC at h
  split at h
  · exact right_of_fault (by omega)
  · cases h
theorem stepR_ok {g g' : Rg} {k : Nat} {l : List UInt8} (h : RgOk g k) (hs : stepR g k l = some g') : RgOk g' (k + 1) := by
  unfold stepR at hs
  split at hs
  rotate_left
  · cases hs
  unfold lineR at hs
  split at hs
  · split at hs
    · simp only [Option.some.injEq] at hs
      subst hs
      exact ⟨by simp, by simp⟩
    · cases hs
  unfold moreR at hs
  split at hs
  · cases hs
  split at hs
  · unfold dropR at hs
    split at hs
    · cases hs
    · simp only [Option.some.injEq] at hs
      subst hs
      exact ⟨by have := h.len; simp; omega, h.att⟩
  split at hs
  · unfold addR at hs
    split at hs
    · cases hs
    split at hs
    · simp only [Option.some.injEq] at hs
      subst hs
      exact ⟨by have := h.len; have := withD_len g.drops ((preR (Lib.cut (List.drop 2 (List.take (l.length - 1) l)) [32]).1).1, (preR (Lib.cut (List.drop 2 (List.take (l.length - 1) l)) [32]).1).2.1); simp; omega, h.att⟩
    · rename_i hc
      simp only [Option.some.injEq] at hs
      subst hs
      refine ⟨by have := h.len; simp; omega, fun r hr => ?_⟩
      rcases List.mem_append.1 hr with hr | hr
      · exact h.att r hr
      · simp only [List.mem_singleton] at hr
        subst hr
        exact ⟨readA_right (by simpa using hc), rfl⟩
  · cases hs
theorem runR_ok (L : List (List UInt8)) (k : Nat) (hk : k ≤ L.length) {g : Rg} (h : runR rg0 0 (L.take k) = some g) : RgOk g k := by
  induction k generalizing g with
  | zero =>
    simp only [List.take_zero, runR, Option.some.injEq] at h
    subst h
    exact ⟨by simp [rg0], by simp [rg0]⟩
  | succ k ih =>
    rw [runR_succ L k (by omega)] at h
    cases e : runR rg0 0 (L.take k) with
    | none => rw [e] at h; cases h
    | some g0 =>
      rw [e] at h
      exact stepR_ok (ih (by omega) e) h

/-- a line's end is taken off. -/
theorem stepR_line (g : Rg) (k : Nat) (l : List UInt8) : stepR g k (l ++ [10]) = lineR g k l := by
  unfold stepR
  have h : Lib.hasSuffix (l ++ [10]) [10] = true := by
    unfold Lib.hasSuffix
    exact List.isSuffixOf_iff_suffix.2 ⟨l, rfl⟩
  rw [if_pos h]
  simp
theorem headR_text {k : List UInt8} {n : Int} (h : headC k n = 0) : headR (headT k n) = (k, n, true) := by
  obtain ⟨hk, h0, h1, h2⟩ := headC_zero h
  have hn := itoa_text n h0 (by omega)
  have hv : numOf (Lib.itoa n) = n := by rw [numOf_yes hn.ok, ← numR_yes hn.ok]; exact hn.val
  rcases hk with rfl | rfl | rfl | rfl
  · have e : headT kOpen n = kOpen ++ 32 :: Lib.itoa n := by unfold headT; rw [if_pos (.inl rfl)]
    rw [e]
    unfold headR
    rw [if_neg (by simp [kOpen, kKeep]), if_neg (by simp [kOpen, kNews]), if_pos (by simp [Lib.hasPrefix, kOpen])]
    simp [kOpen, hv, hn.ok]
  · have e : headT kNote n = kNote ++ 32 :: Lib.itoa n := by unfold headT; rw [if_pos (.inr rfl)]
    rw [e]
    unfold headR
    rw [if_neg (by simp [kNote, kKeep]), if_neg (by simp [kNote, kNews]), if_neg (by simp [Lib.hasPrefix, kOpen, kNote]), if_pos (by simp [Lib.hasPrefix, kNote])]
    simp [kNote, hv, hn.ok]
  · rw [h2 (.inl rfl)]; rfl
  · rw [h2 (.inr rfl)]; rfl

theorem preR_txt {p : Int × Int} (h : rt p.1 p.2 = true) : preR (txtP p.1 p.2) = (p.1, p.2, 0) := rdP_txt p.1 p.2 h
theorem runR_drops (D : List (Int × Int)) (h : ∀ p ∈ D, rt p.1 p.2 = true) (g : Rg) (k : Nat) (hk : 0 < k) (hg : g.kind = kNews) (ha : g.added = false) :
    runR g k ((D.map dropT).map (· ++ [10])) = some { g with drops := g.drops ++ D } := by
  induction D generalizing g k with
  | nil => simp [runR]
  | cons p D ih =>
    have e : stepR g k (dropT p ++ [10]) = some { g with drops := g.drops ++ [p] } := by
      rw [stepR_line]
      unfold lineR moreR
      rw [if_neg (by omega), if_neg (by simp [hg]), if_pos (by simp [Lib.hasPrefix, dropT])]
      unfold dropR
      have : (dropT p).drop 2 = txtP p.1 p.2 := by simp [dropT]
      rw [this, preR_txt (h p (by simp)), if_neg (by simp [ha])]
    simp only [List.map_cons, runR, e, Option.bind_some]
    rw [ih (fun q hq => h q (by simp [hq])) { g with drops := g.drops ++ [p] } (k + 1) (by omega) hg ha]
    simp

/-- a line of Adds, its ATTR any text. -/
def addL (x : (Int × Int) × List UInt8) : List UInt8 := [43, 32] ++ txtP x.1.1 x.1.2 ++ [32] ++ x.2
def addF (g : Rg) (x : (Int × Int) × List UInt8) : Rg :=
  if readC x.2 ≠ 0 then { g with drops := withD g.drops x.1, added := true } else { g with adds := g.adds ++ [⟨x.1, readA x.2, 0⟩], added := true }
theorem txtP_not {a n : Int} (h : rt a n = true) (c : UInt8) (hc : c.toNat < 46) : c ∉ txtP a n := by
  obtain ⟨⟨a0, a1⟩, ⟨n0, n1⟩, -⟩ := (rt_iff a n).1 h
  have s1 := (itoa_text (a / 16777216) (by omega) (by omega)).not c (by omega)
  have s2 := (itoa_text (a / 65536 % 256) (by omega) (by omega)).not c (by omega)
  have s3 := (itoa_text (a / 256 % 256) (by omega) (by omega)).not c (by omega)
  have s4 := (itoa_text (a % 256) (by omega) (by omega)).not c (by omega)
  have s5 := (itoa_text n n0 (by omega)).not c (by omega)
  have c1 : ¬ c = 46 := fun e => by subst e; exact absurd hc (by decide)
  have c2 : ¬ c = 47 := fun e => by subst e; exact absurd hc (by decide)
  unfold txtP txt4
  simp only [List.mem_append, List.mem_cons, not_or]
  exact ⟨⟨s1, c1, s2, c1, s3, c1, s4⟩, c2, s5⟩
theorem cut_blank (x r : List UInt8) (h : 32 ∉ x) : Lib.cut (x ++ 32 :: r) [32] = (x, r, true) := by
  unfold Lib.cut
  rw [idx_hit 32 x r h, if_pos (by omega)]
  simp
theorem runR_adds (X : List ((Int × Int) × List UInt8)) (h : ∀ x ∈ X, rt x.1.1 x.1.2 = true) (g : Rg) (k : Nat) (hk : 0 < k) (hg : g.kind = kNews) :
    runR g k ((X.map addL).map (· ++ [10])) = some (X.foldl addF g) := by
  induction X generalizing g k with
  | nil => simp [runR]
  | cons x X ih =>
    have hx := h x (by simp)
    have e : stepR g k (addL x ++ [10]) = some (addF g x) := by
      rw [stepR_line]
      unfold lineR moreR
      rw [if_neg (by omega), if_neg (by simp [hg]), if_neg (by simp [Lib.hasPrefix, addL]), if_pos (by simp [Lib.hasPrefix, addL])]
      have : (addL x).drop 2 = txtP x.1.1 x.1.2 ++ 32 :: x.2 := by simp [addL]
      rw [this]
      unfold addR
      rw [cut_blank _ _ (txtP_not hx 32 (by decide)), preR_txt hx]
      simp only [ne_eq, not_true_eq_false, or_false, Bool.true_eq_false, if_false]
      unfold addF
      split <;> rfl
    have hk9 : (addF g x).kind = kNews := by
      unfold addF
      split <;> exact hg
    simp only [List.map_cons, runR, e, Option.bind_some, List.foldl_cons]
    exact ih (fun y hy => h y (by simp [hy])) _ (k + 1) (by omega) hk9
theorem addF_right {g : Rg} {r : Ro} (h : RightA r.att) (h0 : r.frm = 0) : addF g (r.dst, textA r.att) = { g with adds := g.adds ++ [r], added := true } := by
  obtain ⟨e1, e2⟩ := read_text h
  unfold addF
  simp only [e1, e2, ne_eq, not_true_eq_false, if_false]
  obtain ⟨d, a, f⟩ := r
  simp only at h0
  subst h0
  rfl
theorem foldl_right (L : List Ro) (h : ∀ r ∈ L, RightA r.att ∧ r.frm = 0) (g : Rg) :
    (L.map fun r => (r.dst, textA r.att)).foldl addF g = { g with adds := g.adds ++ L, added := g.added || !L.isEmpty } := by
  induction L generalizing g with
  | nil => simp
  | cons r L ih =>
    simp only [List.map_cons, List.foldl_cons]
    rw [addF_right (h r (by simp)).1 (h r (by simp)).2, ih (fun x hx => h x (by simp [hx]))]
    simp

/-- the lines of a text made of lines, each with its end. -/
def linesT (M : Ms) : List (List UInt8) := (linesM M).map (· ++ [10])
theorem RightM.frm {M : Ms} (h : RightM M) : ∀ r ∈ M.adds, RightA r.att ∧ r.frm = 0 := fun r hr => ⟨h.rattr hr, (h.att r hr).2⟩
theorem runR_text {M : Ms} (h : RightM M) : runR rg0 0 (linesT M) = some ⟨M.kind, M.n, M.drops, M.adds, !M.adds.isEmpty⟩ := by
  unfold linesT linesM
  rw [List.map_cons, List.map_append]
  have e : stepR rg0 0 (headT M.kind M.n ++ [10]) = some ⟨M.kind, M.n, [], [], false⟩ := by
    rw [stepR_line]
    unfold lineR
    rw [if_pos rfl, headR_text h.head]
    rfl
  simp only [runR, e, Option.bind_some]
  by_cases hk : M.kind = kNews
  · rw [runR_append, runR_drops M.drops h.drops.rt _ 1 (by omega) hk rfl]
    simp only [Option.bind_some]
    have ea : M.adds.map addT = (M.adds.map fun r => (r.dst, textA r.att)).map addL := by
      rw [List.map_map]
      rfl
    rw [ea, runR_adds _ (fun x hx => by
      obtain ⟨r, hr, rfl⟩ := List.mem_map.1 hx
      exact h.rdst hr) _ _ (by omega) hk, foldl_right _ h.frm]
    simp
  · obtain ⟨e1, e2⟩ := h.none hk
    rw [e1, e2]
    simp [runR]

/-- one route of Adds is told wrongly. -/
def badX (L : List Ro) (at0 : Nat) (b : List UInt8) : List ((Int × Int) × List UInt8) :=
  (L.take at0).map (fun r => (r.dst, textA r.att)) ++ (((L.getD at0 ro0).dst, b) :: (L.drop (at0 + 1)).map (fun r => (r.dst, textA r.att)))
def linesB (M : Ms) (at0 : Nat) (b : List UInt8) : List (List UInt8) := (kNews :: (M.drops.map dropT ++ (badX M.adds at0 b).map addL)).map (· ++ [10])
theorem runR_bad {D : List (Int × Int)} {L : List Ro} {n : Int} (h : RightM ⟨kNews, n, D, L⟩) (at0 : Nat) (ha : at0 < L.length) (b : List UInt8) (hb : readC b ≠ 0) :
    runR rg0 0 (linesB ⟨kNews, n, D, L⟩ at0 b) = some ⟨kNews, 0, insP L[at0].dst D, L.eraseIdx at0, true⟩ := by
  have hat : L.getD at0 ro0 = L[at0] := by simp [List.getD, ha]
  unfold linesB
  rw [List.map_cons, List.map_append]
  have e : stepR rg0 0 (kNews ++ [10]) = some ⟨kNews, 0, [], [], false⟩ := by
    rw [stepR_line]
    rfl
  simp only [runR, e, Option.bind_some]
  rw [runR_append, runR_drops D h.drops.rt _ 1 (by omega) rfl rfl]
  simp only [Option.bind_some]
  rw [runR_adds _ (fun x hx => by
    unfold badX at hx
    rw [hat] at hx
    rcases List.mem_append.1 hx with hx | hx
    · obtain ⟨r, hr, rfl⟩ := List.mem_map.1 hx
      exact h.rdst (List.mem_of_mem_take hr)
    · rcases List.mem_cons.1 hx with rfl | hx
      · exact h.rdst (List.getElem_mem ha)
      · obtain ⟨r, hr, rfl⟩ := List.mem_map.1 hx
        exact h.rdst (List.mem_of_mem_drop hr)) _ _ (by omega) rfl]
  unfold badX
  rw [List.foldl_append, foldl_right _ (fun r hr => h.frm r (List.mem_of_mem_take hr)), List.foldl_cons, hat]
  have e2 : ∀ g : Rg, addF g (L[at0].dst, b) = { g with drops := withD g.drops L[at0].dst, added := true } := fun g => by
    unfold addF
    rw [if_pos hb]
  rw [e2, foldl_right _ (fun r hr => h.frm r (List.mem_of_mem_drop hr))]
  have hnd : L[at0].dst ∉ D := h.apart _ (List.getElem_mem ha)
  have hw : withD D L[at0].dst = insP L[at0].dst D := by
    unfold withD hasP
    rw [decide_eq_false hnd]
    rfl
  simp only [List.nil_append, hw]
  rw [List.eraseIdx_eq_take_drop_succ]
  simp

/-- no line holds a line end. -/
theorem join_not (c c' : UInt8) (hc : c ≠ c') (h48 : c'.toNat < 48) (L : List Int) (h : ∀ y ∈ L, 0 ≤ y ∧ y ≤ 9999) (h45 : c' ≠ 45) : c' ∉ joinN c L := by
  cases L with
  | nil => simpa [joinN] using h45
  | cons x r =>
    simp only [joinN, List.mem_append, List.mem_flatMap, not_or]
    refine ⟨(itoa_text x (h x (by simp)).1 (h x (by simp)).2).not c' h48, ?_⟩
    rintro ⟨y, hy, hm⟩
    rcases List.mem_cons.1 hm with e | hm
    · exact hc e.symm
    · exact (itoa_text y (h y (by simp [hy])).1 (h y (by simp [hy])).2).not c' h48 hm
theorem textA_not {A : At} (h : RightA A) : (10 : UInt8) ∉ textA A := by
  have h1 := join_not 45 10 (by decide) (by decide) A.path (fun y hy => by have := h.sys y hy; omega) (by decide)
  have h2 := join_not 44 10 (by decide) (by decide) A.tags (fun y hy => by have := h.tag y hy; omega) (by decide)
  have h3 := (itoa_text A.pref (by have := h.pref; omega) (by have := h.pref; omega)).not 10 (by decide)
  have h4 := (itoa_text A.med (by have := h.med; omega) (by have := h.med; omega)).not 10 (by decide)
  have h5 := (itoa_text A.org (by have := h.org; omega) (by have := h.org; omega)).not 10 (by decide)
  unfold textA
  simp only [List.mem_append, List.mem_cons, List.not_mem_nil, or_false, not_or]
  exact ⟨⟨⟨⟨⟨⟨⟨⟨h1, by decide⟩, h3⟩, by decide⟩, h4⟩, by decide⟩, h5⟩, by decide⟩, h2⟩
theorem headT_not {k : List UInt8} {n : Int} (h : headC k n = 0) : (10 : UInt8) ∉ headT k n := by
  obtain ⟨hk, h0, h1, h2⟩ := headC_zero h
  have hn := (itoa_text n h0 (by omega)).not 10 (by decide)
  unfold headT
  rcases hk with rfl | rfl | rfl | rfl
  · rw [if_pos (.inl rfl)]; simp [kOpen, hn]
  · rw [if_pos (.inr rfl)]; simp [kNote, hn]
  · rw [if_neg (by decide)]; decide
  · rw [if_neg (by decide)]; decide
theorem dropT_not {p : Int × Int} (h : rt p.1 p.2 = true) : (10 : UInt8) ∉ dropT p := by
  have := txtP_not h 10 (by decide)
  unfold dropT
  simp only [List.mem_append, List.mem_cons, List.not_mem_nil, or_false, not_or]
  exact ⟨⟨by decide, by decide⟩, this⟩
theorem addL_not {x : (Int × Int) × List UInt8} (h : rt x.1.1 x.1.2 = true) (h2 : (10 : UInt8) ∉ x.2) : (10 : UInt8) ∉ addL x := by
  have := txtP_not h 10 (by decide)
  unfold addL
  simp only [List.mem_append, List.mem_cons, List.not_mem_nil, or_false, not_or]
  exact ⟨⟨⟨⟨by decide, by decide⟩, this⟩, by decide⟩, h2⟩
theorem lines_not {M : Ms} (h : RightM M) : ∀ l ∈ linesM M, (10 : UInt8) ∉ l := by
  intro l hl
  unfold linesM at hl
  rcases List.mem_cons.1 hl with rfl | hl
  · exact headT_not h.head
  rcases List.mem_append.1 hl with hl | hl
  · obtain ⟨p, hp, rfl⟩ := List.mem_map.1 hl
    exact dropT_not (h.drops.rt p hp)
  · obtain ⟨r, hr, rfl⟩ := List.mem_map.1 hl
    exact addL_not (x := (r.dst, textA r.att)) (h.rdst hr) (textA_not (h.rattr hr))
theorem bad_not {M : Ms} (h : RightM M) (at0 : Nat) (ha : at0 < M.adds.length) (b : List UInt8) (hb : (10 : UInt8) ∉ b) : ∀ l ∈ (kNews :: (M.drops.map dropT ++ (badX M.adds at0 b).map addL)), (10 : UInt8) ∉ l := by
  intro l hl
  rcases List.mem_cons.1 hl with rfl | hl
  · decide
  rcases List.mem_append.1 hl with hl | hl
  · obtain ⟨p, hp, rfl⟩ := List.mem_map.1 hl
    exact dropT_not (h.drops.rt p hp)
  · obtain ⟨x, hx, rfl⟩ := List.mem_map.1 hl
    unfold badX at hx
    rcases List.mem_append.1 hx with hx | hx
    · obtain ⟨r, hr, rfl⟩ := List.mem_map.1 hx
      exact addL_not (h.rdst (List.mem_of_mem_take hr)) (textA_not (h.rattr (List.mem_of_mem_take hr)))
    · rcases List.mem_cons.1 hx with rfl | hx
      · exact addL_not (by have : M.adds.getD at0 ro0 = M.adds[at0] := by simp [List.getD, ha]
                           rw [this]; exact h.rdst (List.getElem_mem ha)) hb
      · obtain ⟨r, hr, rfl⟩ := List.mem_map.1 hx
        exact addL_not (h.rdst (List.mem_of_mem_drop hr)) (textA_not (h.rattr (List.mem_of_mem_drop hr)))

/-- the lines of a text, cut behind each line end. -/
theorem join_flat : ∀ (L : List (List UInt8)), L ≠ [] → Lib.join L [10] ++ [10] = (L.map (· ++ [10])).flatten
  | [], h => absurd rfl h
  | [x], _ => by simp [Lib.join]
  | x :: y :: L, _ => by
    have := join_flat (y :: L) (by simp)
    simp only [List.map_cons, List.flatten_cons] at this ⊢
    rw [← this]
    simp [Lib.join]
theorem textM_flat (M : Ms) : textM M = (linesT M).flatten := by
  unfold textM linesT
  exact join_flat _ (by unfold linesM; simp)
end Go.Proofs.YtbfdgflbflajdaaGreatDoor

namespace Go.Proofs.YtbfdgflbflajdaaGreatDoor
open Go.RowKit

theorem own_block_lt {w : World} {S : Nat} {v : Value} {n : Nat} {xs : List Value} {e : TypeId} {s : Nat} (h : w.ownsRow S e s v n xs) {w' : World} (hs : w.heap.size ≤ w'.heap.size) : v.ownBlock ≠ some w'.heap.size := fun e => by
  have := (h.lt _ e).2
  omega
set_option linter.unusedVariables false in
set_option maxRecDepth 100000 in
set_option maxHeartbeats 4000000 in
theorem withDrop_any (T : List (Int × Int)) (p0 p1 : Int) (v : Value) (S : Nat) (E : Nat → Addr) (m : Int) (w : World) (hE : WireEnv w E m) (ho : w.ownsRow S 65 2 v T.length (flat2 T)) (hl : T.length ≤ 1000000) (hS : S ≤ w.heap.size) :
    Calls Tryz.prog 154 #[v, .agg #[.int .i64 p0, .int .i64 p1]] w fun r w' => (∃ v', r = .returned v' ∧ w'.ownsRow S 65 2 v' (withD T (p0, p1)).length (flat2 (withD T (p0, p1))) ∧ Grew w w' v v') := by
  obtain ⟨q, c, rfl, -, -, hP⟩ := own_pairs ho
  have hb := below_alloc w (.cells #[.int .i64 p0, .int .i64 p1] 65)
  obtain ⟨i0, hi, hz0, hz1, hz2⟩ := pInfo_parts infoPre
  obtain ⟨W, hW⟩ : ∃ W, Hid (w.alloc (.cells #[.int .i64 p0, .int .i64 p1] 65) = W) := ⟨_, show _ = _ from rfl⟩
  have d0 : (w.alloc (.cells #[.int .i64 p0, .int .i64 p1] 65)).cell? ⟨w.heap.size, 0, none⟩ = some (.int .i64 p0) := by simp
  have d1 : (w.alloc (.cells #[.int .i64 p0, .int .i64 p1] 65)).cell? ⟨w.heap.size, 1, none⟩ = some (.int .i64 p1) := by simp
  rw [show w.alloc (.cells #[.int .i64 p0, .int .i64 p1] 65) = W from hW.out] at d0 d1 hb
  obtain ⟨N, hN⟩ : ∃ N, Hid (w.heap.size = N) := ⟨_, show _ = _ from rfl⟩
  rw [show w.heap.size = N from hN.out] at d0 d1
  obtain ⟨HB⟩ : Nonempty (Hid (Below w.heap.size w W)) := ⟨hb⟩
  obtain ⟨HX⟩ : Nonempty (Hid (∀ w', Below W.heap.size W w' → w'.cell? ⟨N, 0, none⟩ = some (.int .i64 p0) ∧ w'.cell? ⟨N, 1, none⟩ = some (.int .i64 p1) ∧ Below w.heap.size w w' ∧ w'.ownsRow S 65 2 (.slice q T.length c) T.length (flat2 T))) := ⟨fun w' h => ⟨cell_kept h d0, cell_kept h d1, HB.out.trans (h.mono HB.out.size), own_below ho (HB.out.trans (h.mono HB.out.size))⟩⟩
  obtain ⟨HC⟩ : Nonempty (Hid (Calls _ _ _ _ _)) := ⟨containsP_any T q c p0 p1 W (hP.below HB.out) (by omega)⟩
  obtain ⟨HI⟩ : Nonempty (Hid (∀ w', Below W.heap.size W w' → Calls _ _ _ _ _)) := ⟨fun w' h => indexAbove_any T q c p0 p1 N E m w' (hP.below (HX.out w' h).2.2.1) (hE.below (HX.out w' h).2.2.1) (HX.out w' h).1 (HX.out w' h).2.1 (by omega)⟩
  obtain ⟨HO⟩ : Nonempty (Hid (w.ownsRow S 65 2 (.slice q T.length c) T.length (flat2 T) ∧ S ≤ w.heap.size)) := ⟨⟨ho, hS⟩⟩
  obtain ⟨r0, hr⟩ : ∃ r, Hid (hasP T (p0, p1) = r) := ⟨_, show _ = _ from rfl⟩
  rw [show hasP T (p0, p1) = r0 from hr.out] at HC
  have HD : Hid (withD T (p0, p1) = if r0 = true then T else insP (p0, p1) T) := by
    show _ = _
    unfold withD; rw [hr.out]
  clear hE ho hP hb hr
  cases r0 with
  | true =>
    have HD2 : Hid (withD T (p0, p1) = T) := by
      show _ = _
      rw [HD.out]; rfl
    rw [HD2.out]
    clear HD HD2
    go_enter Tryz.func154, Tryz.ntmps154
    go_upto_region 1 with fail
    rw [show w.alloc (.cells #[.int .i64 p0, .int .i64 p1] 65) = W from hW.out, show w.heap.size = N from hN.out]
    go_wp2_with fail
    refine HC.out.mono ?_
    rintro e w1 ⟨rfl, hb1⟩
    obtain ⟨HB1⟩ : Nonempty (Hid (Below W.heap.size W w1)) := ⟨hb1⟩
    clear hb1 d0 d1
    go_wp2_with fail
    go_ret
    have h9 := HX.out _ HB1.out
    exact ⟨_, rfl, h9.2.2.2, Grew.of_below h9.2.2.1⟩
  | false =>
    have HD2 : Hid (withD T (p0, p1) = insP (p0, p1) T) := by
      show _ = _
      rw [HD.out]; rfl
    rw [HD2.out]
    clear HD HD2
    go_enter Tryz.func154, Tryz.ntmps154
    go_upto_region 1 with fail
    rw [show w.alloc (.cells #[.int .i64 p0, .int .i64 p1] 65) = W from hW.out, show w.heap.size = N from hN.out]
    go_wp2_with fail
    refine HC.out.mono ?_
    rintro e w1 ⟨rfl, hb1⟩
    obtain ⟨HB1⟩ : Nonempty (Hid (Below W.heap.size W w1)) := ⟨hb1⟩
    clear hb1 d0 d1
    go_wp2_with fail
    refine (HI.out _ HB1.out).mono ?_
    rintro e w2 ⟨hres, hb2⟩
    obtain ⟨HB2⟩ : Nonempty (Hid (Below W.heap.size W w2)) := ⟨HB1.out.trans (hb2.mono HB1.out.size)⟩
    obtain ⟨e0, e1, -, -⟩ := HX.out _ HB2.out
    clear hb2
    rcases hres with ⟨k, rfl, hk, hins⟩ | ⟨rfl, hins⟩
    · obtain ⟨HINS⟩ : Nonempty (Hid (insP (p0, p1) T = T.take k ++ (p0, p1) :: T.drop k)) := ⟨hins⟩
      obtain ⟨HG⟩ : Nonempty (Hid (Calls Tryz.prog 172 #[.slice q T.length c, .int .i64 (k : Int), .slice (some ⟨w2.heap.size, 0, none⟩) 1 1] (w2.alloc (.cells #[.int .i64 p0, .int .i64 p1] 65)) fun r w' => ∃ v', r = .returned v' ∧ w'.ownsRow S 65 2 v' (T.take k ++ (p0, p1) :: T.drop k).length (flat2 (T.take k ++ (p0, p1) :: T.drop k)) ∧ Grew w w' (.slice q T.length c) v')) := ⟨by
        have h9 := HX.out _ HB2.out
        refine (insP_own T (p0, p1) (.slice q T.length c) S k w2.heap.size (w2.alloc (.cells #[.int .i64 p0, .int .i64 p1] 65)) (h9.2.2.2.alloc _) hk hl (Go.heap_alloc_new w2 _) (own_block_lt h9.2.2.2 (Nat.le_refl _)) (by have := HO.out.2; have := h9.2.2.1.size; simp; omega)).mono ?_
        rintro r w' ⟨v', hv, h1, h2⟩
        exact ⟨v', hv, h1, Grew.behind h9.2.2.1 (Grew.behind (below_alloc _ _) h2)⟩⟩
      have hk0 : decide ((k : Int) < 0) = false := decide_eq_false (by omega)
      clear hins
      go_wp2_with fail
      refine HG.out.mono ?_
      rintro e w3 ⟨v', rfl, h1, h2⟩
      obtain ⟨HR⟩ : Nonempty (Hid (w3.ownsRow S 65 2 v' (T.take k ++ (p0, p1) :: T.drop k).length (flat2 (T.take k ++ (p0, p1) :: T.drop k)) ∧ Grew w w3 (.slice q T.length c) v')) := ⟨⟨h1, h2⟩⟩
      clear h1 h2
      go_wp2_with fail
      go_ret
      rw [HINS.out]
      exact ⟨_, rfl, HR.out⟩
    · obtain ⟨O', HO'⟩ : ∃ O', Hid (T ++ [(p0, p1)] = O') := ⟨_, show _ = _ from rfl⟩
      obtain ⟨HINS⟩ : Nonempty (Hid (insP (p0, p1) T = O')) := ⟨by show _ = _; rw [hins, HO'.out]⟩
      have h9 := (HX.out _ HB2.out).2.2.2
      clear hins
      go_wp2_with (at_builtin; refine wp_pushP rfl _ _ 52 rfl S 65 i0 Tryz.underlying52 hi hz0 hz1 hz2 (.slice q T.length c) T rfl h9 p0 p1 _ rfl rfl O' HO' (by omega) (Nat.le_trans HO.out.2 (HX.out _ HB2.out).2.2.1.size) ?_)
      intro v' w3 h1 h2
      obtain ⟨HR⟩ : Nonempty (Hid (w3.ownsRow S 65 2 v' O'.length (flat2 O') ∧ Grew w w3 (.slice q T.length c) v')) := ⟨⟨h1, Grew.behind (HX.out _ HB2.out).2.2.1 h2⟩⟩
      clear h1 h2 h9
      go_wp2_with fail
      go_ret
      rw [HINS.out]
      exact ⟨_, rfl, HR.out⟩
end Go.Proofs.YtbfdgflbflajdaaGreatDoor

namespace Go.Proofs.YtbfdgflbflajdaaGreatDoor
open Go.RowKit

/-- all below S stands, but for block R. -/
structure Fr (R S : Nat) (w w' : World) : Prop where
  os : w'.os = w.os
  tape : w'.tape = w.tape
  output : w'.output = w.output
  size : w.heap.size ≤ w'.heap.size
  block : ∀ k, k < S → k ≠ R → w'.heap[k]? = w.heap[k]?
theorem Fr.refl (R S : Nat) (w : World) : Fr R S w w := ⟨rfl, rfl, rfl, Nat.le_refl _, fun _ _ _ => rfl⟩
theorem Fr.trans {R S : Nat} {a b c : World} (h : Fr R S a b) (k : Fr R S b c) : Fr R S a c :=
  ⟨k.os.trans h.os, k.tape.trans h.tape, k.output.trans h.output, Nat.le_trans h.size k.size, fun i h1 h2 => (k.block i h1 h2).trans (h.block i h1 h2)⟩
theorem Fr.of_below {R S : Nat} {w w' : World} (hb : Below w.heap.size w w') (hS : S ≤ w.heap.size) : Fr R S w w' :=
  ⟨hb.os, hb.tape, hb.output, hb.size, fun k h1 _ => hb.block k (by omega)⟩
theorem Fr.below {R S : Nat} {w w' : World} (h : Fr R S w w') (hR : R < S) : Below R w w' :=
  ⟨h.os, h.tape, h.output, h.size, fun k h1 => h.block k (by omega) (by omega)⟩
theorem Fr.cell {R S : Nat} {w w' : World} (h : Fr R S w w') {p : Addr} {v : Value} (hc : w.cell? p = some v) (h1 : p.block < S) (h2 : p.block ≠ R) : w'.cell? p = some v := by
  rw [World.cell?_of_block (w := w) (h.block p.block h1 h2)]; exact hc

/-- the reading at R, its lists rows of their own from S on. -/
def RdAt (w : World) (R S : Nat) (g : Rg) : Prop :=
  ∃ d a, w.heap[R]? = some (.cells #[.string ⟨g.kind.toArray⟩, .int .i64 g.n, d, a, .bool g.added] 100 (0, 0)) ∧ w.ownsRow S 65 2 d g.drops.length (flat2 g.drops) ∧ OwnRo w S a g.adds (fun b => b < S ∨ d.ownBlock = some b) ∧ R < S ∧ S ≤ w.heap.size
theorem RdAt.below {w w' : World} {R S : Nat} {g : Rg} (h : RdAt w R S g) (hb : Below w.heap.size w w') : RdAt w' R S g := by
  obtain ⟨d, a, h1, h2, h3, h4, h5⟩ := h
  exact ⟨d, a, by rw [hb.block R (Array.getElem?_eq_some_iff.1 h1).1]; exact h1, own_below h2 hb, h3.below hb, h4, Nat.le_trans h5 hb.size⟩
theorem heap_cells5 {w : World} {R : Nat} {x0 x1 x2 x3 x4 : Value} {t : TypeId} (h : w.heap[R]? = some (.cells #[x0, x1, x2, x3, x4] t (0, 0))) :
    w.cell? ⟨R, 0, none⟩ = some x0 ∧ w.cell? ⟨R, 1, none⟩ = some x1 ∧ w.cell? ⟨R, 2, none⟩ = some x2 ∧ w.cell? ⟨R, 3, none⟩ = some x3 ∧ w.cell? ⟨R, 4, none⟩ = some x4 ∧ (∀ o, w.frozen? ⟨R, o, none⟩ = false) := by
  refine ⟨?_, ?_, ?_, ?_, ?_, fun o => ?_⟩ <;> simp [World.cell?, World.frozen?, h]
/-- two rows of unlike types lie in blocks of their own. -/
theorem rows_apart {w : World} {S S' : Nat} {e e' : TypeId} (he : e ≠ e') {s s' n n' : Nat} {v v' : Value} {xs xs' : List Value} (h : w.ownsRow S e s v n xs) (h' : w.ownsRow S' e' s' v' n' xs') (b : Nat) (hb : v.ownBlock = some b) : v'.ownBlock ≠ some b := fun hb' => by
  rcases h.2 with ⟨rfl, -⟩ | ⟨g, c, cur, rfl, -, hg, -⟩
  · simp [Value.ownBlock] at hb
  · rcases h'.2 with ⟨rfl, -⟩ | ⟨g', c', cur', rfl, -, hg', -⟩
    · simp [Value.ownBlock] at hb'
    · simp [Value.ownBlock] at hb hb'
      subst hb
      subst hb'
      rw [hg] at hg'
      simp only [Option.some.injEq, Obj.cells.injEq] at hg'
      exact he hg'.2.1
theorem OwnRo.own {w : World} {base : Nat} {v : Value} {L : List Ro} {F : Nat → Prop} (h : OwnRo w base v L F) : ∃ n xs, w.ownsRow base 67 8 v n xs := by
  obtain ⟨X, -, h1, -⟩ := h
  exact ⟨_, _, h1⟩
theorem OwnRo.mono {w : World} {base : Nat} {v : Value} {L : List Ro} {F G : Nat → Prop} (h : OwnRo w base v L F) (hg : ∀ b, b < w.heap.size → G b → F b) : OwnRo w base v L G := by
  obtain ⟨X, h1, h2, h3⟩ := h
  exact ⟨X, h1, h2, fun x hx => ⟨(h3 x hx).1.mono fun b hb hgb => hgb.imp (hg b hb) id, (h3 x hx).2.mono fun b hb hgb => hgb.imp (hg b hb) id⟩⟩
theorem wOwn_set {w : World} {base : Nat} {e : TypeId} {size : Nat} {v : Value} {n : Nat} {xs : List Value} (h : w.ownsRow base e size v n xs) {B : Nat} (hB : B < base) (k : Nat) (u : Value) : (w.setCell ⟨B, k, none⟩ u).ownsRow base e size v n xs := by
  refine ⟨h.1, ?_⟩
  rcases h.2 with h2 | ⟨g, cap, cur, rfl, h3, hg, r⟩
  · exact .inl h2
  · exact .inr ⟨g, cap, cur, rfl, h3, by rw [Below.heap_setCell _ _ _ _ (by simp; omega)]; exact hg, r⟩
theorem wOwn_kept {w w' : World} {base : Nat} {e : TypeId} {size : Nat} {v : Value} {n : Nat} {xs : List Value} (h : w.ownsRow base e size v n xs) (hk : ∀ b, v.ownBlock = some b → w'.heap[b]? = w.heap[b]?) : w'.ownsRow base e size v n xs := by
  refine ⟨h.1, ?_⟩
  rcases h.2 with h2 | ⟨g, cap, cur, rfl, h3, hg, r⟩
  · exact .inl h2
  · exact .inr ⟨g, cap, cur, rfl, h3, by rw [hk g rfl]; exact hg, r⟩
theorem ownRo_set {w : World} {base : Nat} {v : Value} {L : List Ro} {F : Nat → Prop} (h : OwnRo w base v L F) {R : Nat} (hF : F R) (hv : ∀ b, v.ownBlock = some b → ¬ F b) (k : Nat) (u : Value) : OwnRo (w.setCell ⟨R, k, none⟩ u) base v L F :=
  h.kept (fun i _ hn => Below.heap_setCell _ _ _ _ (by simp only; intro e; exact hn (e ▸ hF))) hv
theorem fr_set {R S : Nat} {w w' : World} (h : Fr R S w w') (k : Nat) (u : Value) : Fr R S w (w'.setCell ⟨R, k, none⟩ u) :=
  ⟨h.os, h.tape, h.output, by simpa [World.setCell] using h.size, fun i h1 h2 => by rw [Below.heap_setCell _ _ _ _ (by simpa using h2)]; exact h.block i h1 h2⟩
/-- Drops grew. -/
theorem rdAt_drops {w w1 : World} {R S : Nat} {g : Rg} {d a v' : Value} (hR : w.heap[R]? = some (.cells #[.string ⟨g.kind.toArray⟩, .int .i64 g.n, d, a, .bool g.added] 100 (0, 0))) (hd : w.ownsRow S 65 2 d g.drops.length (flat2 g.drops))
    (ha : OwnRo w S a g.adds (fun b => b < S ∨ d.ownBlock = some b)) (hRS : R < S) (hS : S ≤ w.heap.size) (hg : Grew w w1 d v') (D' : List (Int × Int)) (hn : w1.ownsRow S 65 2 v' D'.length (flat2 D')) :
    RdAt (w1.setCell ⟨R, 2, none⟩ v') R S { g with drops := D' } ∧ Fr R S w (w1.setCell ⟨R, 2, none⟩ v') := by
  have hlt : R < w.heap.size := (Array.getElem?_eq_some_iff.1 hR).1
  have hdR : some R ≠ d.ownBlock := fun e => by have := (hd.lt R e.symm).1; omega
  have hR1 : w1.heap[R]? = some (.cells #[.string ⟨g.kind.toArray⟩, .int .i64 g.n, d, a, .bool g.added] 100 (0, 0)) := by rw [hg.block R hlt hdR]; exact hR
  obtain ⟨na, xa, hao⟩ := ha.own
  have hav : ∀ b, a.ownBlock = some b → ¬ (b < S ∨ d.ownBlock = some b ∨ v'.ownBlock = some b) := fun b hb => by
    have hab := hao.lt b hb
    have had := rows_apart (by decide) hao hd b hb
    rintro (h | h | h)
    · omega
    · exact had h
    · rcases hg.own with e | ⟨b', e, hb'⟩
      · exact had (e ▸ h)
      · rw [e] at h; simp only [Option.some.injEq] at h; omega
  have h2 : OwnRo w S a g.adds (fun b => b < S ∨ d.ownBlock = some b ∨ v'.ownBlock = some b) := ha.mono fun b hb hf => by
    rcases hf with h | h | h
    · exact .inl h
    · exact .inr h
    · rcases hg.own with e | ⟨b', e, hb'⟩
      · exact .inr (e ▸ h)
      · rw [e] at h; simp only [Option.some.injEq] at h; omega
  have h3 : OwnRo w1 S a g.adds (fun b => b < S ∨ d.ownBlock = some b ∨ v'.ownBlock = some b) := h2.kept (fun k hk hf => hg.block k hk fun e => hf (.inr (.inl e.symm))) hav
  have h4 : OwnRo w1 S a g.adds (fun b => b < S ∨ v'.ownBlock = some b) := h3.mono fun b _ hf => hf.imp id .inr
  refine ⟨⟨v', a, ?_, wOwn_set hn hRS 2 v', ownRo_set h4 (.inl hRS) (fun b hb hf => hav b hb (hf.imp id .inr)) 2 v', hRS, ?_⟩, fr_set ⟨hg.os, hg.tape, hg.output, hg.size, fun k h1 h2 => hg.block k (by omega) fun e => by have := (hd.lt k e.symm).1; omega⟩ 2 v'⟩
  · have := heap_setCell_same w1 R 2 _ _ v' hR1
    simpa using this
  · have := hg.size
    simp [World.setCell]
    omega
/-- Adds grew. -/
theorem rdAt_adds {w w1 : World} {R S : Nat} {g : Rg} {d a v' : Value} (hR : w.heap[R]? = some (.cells #[.string ⟨g.kind.toArray⟩, .int .i64 g.n, d, a, .bool g.added] 100 (0, 0))) (hd : w.ownsRow S 65 2 d g.drops.length (flat2 g.drops))
    (ha : OwnRo w S a g.adds (fun b => b < S ∨ d.ownBlock = some b)) (hRS : R < S) (hS : S ≤ w.heap.size) (hg : Grew w w1 a v') (L' : List Ro) (hn : OwnRo w1 S v' L' (fun b => b < S ∨ d.ownBlock = some b)) :
    RdAt (w1.setCell ⟨R, 3, none⟩ v') R S { g with adds := L' } ∧ Fr R S w (w1.setCell ⟨R, 3, none⟩ v') := by
  have hlt : R < w.heap.size := (Array.getElem?_eq_some_iff.1 hR).1
  obtain ⟨na, xa, hao⟩ := ha.own
  have haR : some R ≠ a.ownBlock := fun e => by have := (hao.lt R e.symm).1; omega
  have hR1 : w1.heap[R]? = some (.cells #[.string ⟨g.kind.toArray⟩, .int .i64 g.n, d, a, .bool g.added] 100 (0, 0)) := by rw [hg.block R hlt haR]; exact hR
  have hd1 : w1.ownsRow S 65 2 d g.drops.length (flat2 g.drops) := wOwn_kept hd fun b hb => hg.block b (hd.lt b hb).2 fun e => rows_apart (by decide) hd hao b hb e.symm
  obtain ⟨nv, xv, hvo⟩ := hn.own
  refine ⟨⟨d, v', ?_, wOwn_set hd1 hRS 3 v', ownRo_set hn (.inl hRS) (fun b hb hf => ?_) 3 v', hRS, ?_⟩, fr_set ⟨hg.os, hg.tape, hg.output, hg.size, fun k h1 h2 => hg.block k (by omega) fun e => by have := (hao.lt k e.symm).1; omega⟩ 3 v'⟩
  · have := heap_setCell_same w1 R 3 _ _ v' hR1
    simpa using this
  · rcases hf with h | h
    · have := (hvo.lt b hb).1; omega
    · exact rows_apart (by decide) hvo hd1 b hb h
  · have := hg.size
    simp [World.setCell]
    omega
/-- a line of Adds came. -/
theorem rdAt_flag {w : World} {R S : Nat} {g : Rg} (h : RdAt w R S g) : RdAt (w.setCell ⟨R, 4, none⟩ (.bool true)) R S { g with added := true } ∧ Fr R S w (w.setCell ⟨R, 4, none⟩ (.bool true)) := by
  obtain ⟨d, a, hR, hd, ha, hRS, hS⟩ := h
  obtain ⟨na, xa, hao⟩ := ha.own
  refine ⟨⟨d, a, ?_, wOwn_set hd hRS 4 _, ownRo_set ha (.inl hRS) (fun b hb hf => ?_) 4 _, hRS, by simpa [World.setCell] using hS⟩, fr_set (Fr.refl _ _ _) 4 _⟩
  · have := heap_setCell_same w R 4 _ _ (.bool true) hR
    simpa using this
  · rcases hf with h | h
    · have := (hao.lt b hb).1; omega
    · exact rows_apart (by decide) hao hd b hb h
end Go.Proofs.YtbfdgflbflajdaaGreatDoor
