/-
  Package wire's readHead: what it returns.
-/
import Derived.Test.YtbfdgflbflajdaaGreatDoorGN
import Derived.Test.YtbfdgflbflajdaaGreatDoorGG
import Derived.Test.YtbfdgflbflajdaaGreatDoorShelf
namespace Go.Proofs.YtbfdgflbflajdaaGreatDoor
open Go.RowKit

/-- four cells stored into a block of four. -/
theorem set4 {W : World} {N : Nat} {x0 x1 x2 x3 : Value} {t : TypeId} (h : W.heap[N]? = some (.cells #[x0, x1, x2, x3] t (0, 0))) (y0 y1 y2 y3 : Value) :
    ((((W.setCell ⟨N, 0, none⟩ y0).setCell ⟨N, 1, none⟩ y1).setCell ⟨N, 2, none⟩ y2).setCell ⟨N, 3, none⟩ y3).heap[N]? = some (.cells #[y0, y1, y2, y3] t (0, 0)) := by
  have h1 := heap_setCell_same W N 0 _ _ y0 h
  have h2 := heap_setCell_same _ N 1 _ _ y1 h1
  have h3 := heap_setCell_same _ N 2 _ _ y2 h2
  have h4 := heap_setCell_same _ N 3 _ _ y3 h3
  simpa using h4
theorem heap_cells4 {w : World} {R : Nat} {x0 x1 x2 x3 : Value} {t : TypeId} (h : w.heap[R]? = some (.cells #[x0, x1, x2, x3] t (0, 0))) :
    w.cell? ⟨R, 0, none⟩ = some x0 ∧ w.cell? ⟨R, 1, none⟩ = some x1 ∧ w.cell? ⟨R, 2, none⟩ = some x2 ∧ w.cell? ⟨R, 3, none⟩ = some x3 := by
  refine ⟨?_, ?_, ?_, ?_⟩ <;> simp [World.cell?, h]
theorem str_eqs {l k : List UInt8} (h : ¬ l = k) : (l == k) = false ∧ ((ByteArray.mk l.toArray).toList == k) = false ∧ ((ByteArray.mk l.toArray).data.toList == k) = false := by
  refine ⟨by rw [beq_eq_false_iff_ne]; exact h, ?_, ?_⟩
  · rw [ByteArray.toList_eq, beq_eq_false_iff_ne]; simpa using h
  · rw [beq_eq_false_iff_ne]; simpa using h
theorem wcutPrefix_any (l p : List UInt8) (q : ByteArray) (hq : q.data.toList = p) (w : World) :
    Calls Tryz.prog 125 #[.string ⟨l.toArray⟩, .string q] w fun e w' => e = .returned (.tuple #[.string ⟨(Lib.trimPrefix l p).toArray⟩, .bool (Lib.hasPrefix l p)]) ∧ w' = w := by
  have := Tryz.strings_CutPrefix ⟨l.toArray⟩ q w
  rw [hq, show (ByteArray.mk l.toArray).data.toList = l by simp] at this
  exact this
set_option linter.unusedVariables false in
set_option linter.unusedSimpArgs false in
set_option maxRecDepth 100000 in
set_option maxHeartbeats 4000000 in
theorem readHead_any (l : List UInt8) (w : World) (hs : l.length ≤ 100000) :
    Calls Tryz.prog 98 #[.string ⟨l.toArray⟩] w fun r w' => r = .returned (.tuple #[.agg #[.string ⟨(headR l).1.toArray⟩, .int .i64 (headR l).2.1, .slice none 0 0, .slice none 0 0], .bool (headR l).2.2]) ∧ Below w.heap.size w w' := by
  obtain ⟨hd, hhd⟩ : ∃ x, Hid (headR l = x) := ⟨_, show _ = _ from rfl⟩
  rw [show headR l = hd from hhd.out]
  obtain ⟨N, hN⟩ : ∃ N, Hid (w.heap.size = N) := ⟨_, show _ = _ from rfl⟩
  obtain ⟨W1, hW1⟩ : ∃ W1, Hid ((w.alloc (.cells #[.string ⟨#[]⟩, .int .i64 0, .slice none 0 0, .slice none 0 0] 55)).alloc (.cells #[.string ⟨#[107, 101, 101, 112]⟩, .string ⟨#[110, 101, 119, 115]⟩] 9) = W1) := ⟨_, show _ = _ from rfl⟩
  have hh : W1.heap[N]? = some (.cells #[.string ⟨#[]⟩, .int .i64 0, .slice none 0 0, .slice none 0 0] 55 (0, 0)) ∧ W1.heap[N + 1]? = some (.cells #[.string ⟨#[107, 101, 101, 112]⟩, .string ⟨#[110, 101, 119, 115]⟩] 9 (0, 0)) ∧ Below N w W1 ∧ W1.heap.size = N + 2 := by
    rw [← hW1.out, ← hN.out]
    refine ⟨?_, ?_, ?_, by simp⟩
    · rw [Below.heap_alloc _ _ _ (by simp)]; exact Go.heap_alloc_new w _
    · have := Go.heap_alloc_new (w.alloc (.cells #[.string ⟨#[]⟩, .int .i64 0, .slice none 0 0, .slice none 0 0] 55)) (.cells #[.string ⟨#[107, 101, 101, 112]⟩, .string ⟨#[110, 101, 119, 115]⟩] 9)
      simpa using this
    · exact (below_alloc _ _).trans ((below_alloc _ _).mono (by simp))
  obtain ⟨HH⟩ : Nonempty (Hid _) := ⟨hh⟩
  have e0 : W1.cell? ⟨N + 1, 0, none⟩ = some (.string ⟨#[107, 101, 101, 112]⟩) := by simp [World.cell?, hh.2.1]
  have e1 : W1.cell? ⟨N + 1, 1, none⟩ = some (.string ⟨#[110, 101, 119, 115]⟩) := by simp [World.cell?, hh.2.1]
  have c0 : W1.cell? ⟨N, 0, none⟩ = some (.string ⟨#[]⟩) := by simp [World.cell?, hh.1]
  have c1 : W1.cell? ⟨N, 1, none⟩ = some (.int .i64 0) := by simp [World.cell?, hh.1]
  have c2 : W1.cell? ⟨N, 2, none⟩ = some (.slice none 0 0) := by simp [World.cell?, hh.1]
  have c3 : W1.cell? ⟨N, 3, none⟩ = some (.slice none 0 0) := by simp [World.cell?, hh.1]
  have f0 : ∀ o, W1.frozen? ⟨N, o, none⟩ = false := fun o => by simp [World.frozen?, hh.1]
  clear hh
  go_enter Tryz.func98, Tryz.ntmps98
  go_wp2_with fail
  rw [show (w.alloc (.cells #[.string ⟨#[]⟩, .int .i64 0, .slice none 0 0, .slice none 0 0] 55)).alloc (.cells #[.string ⟨#[107, 101, 101, 112]⟩, .string ⟨#[110, 101, 119, 115]⟩] 9) = W1 from hW1.out, show w.heap.size = N from hN.out]
  go_loopw [14] (fun i wr => ∃ k : Nat, i = .int .i64 k ∧ k ≤ 2 ∧ Hid ((0 < k → ¬ l = kKeep) ∧ (1 < k → ¬ l = kNews)) ∧ wr = W1) (fun i _ => 2 - (intOf i).toNat)
  case atStart => exact ⟨0, rfl, by omega, ⟨by omega, by omega⟩, rfl⟩
  case round =>
    obtain ⟨k, rfl, hk, HK, rfl⟩ := hrel
    obtain ⟨HBW⟩ : Nonempty (Hid _) := ⟨HH.out.2.2.1⟩
    obtain ⟨HHN⟩ : Nonempty (Hid _) := ⟨HH.out.1⟩
    match k, hk with
    | 0, _ =>
      by_cases h0 : l = kKeep
      · have HR : Hid (hd = (kKeep, 0, true)) := by
          show _ = _
          rw [← hhd.out]
          unfold headR; rw [if_pos h0]
        have h1 : l = [107, 101, 101, 112] := h0
        subst h1
        go_wp2_with fail
        rw [show w.heap.size = N from hN.out]
        obtain ⟨z0, z1, z2, z3⟩ := heap_cells4 (set4 HHN.out (.string ⟨(kKeep).toArray⟩) (.int .i64 (0)) (.slice none 0 0) (.slice none 0 0))
        refine bodyPost_ret (v := .tuple #[.agg #[.string ⟨(kKeep).toArray⟩, .int .i64 (0), .slice none 0 0, .slice none 0 0], .bool (true)]) (by simp [results, Tryz.results98, go_sem, z0, z1, z2, z3]) rfl ⟨by rw [HR.out], ?_⟩
        exact (((HBW.out.setCell (Nat.le_refl _) _).setCell (Nat.le_refl _) _).setCell (Nat.le_refl _) _).setCell (Nat.le_refl _) _
      · obtain ⟨a1, a2, a3⟩ := str_eqs h0
        have HK1 : Hid ((0 < 1 → ¬ l = kKeep) ∧ (1 < 1 → ¬ l = kNews)) := ⟨fun _ => h0, by omega⟩
        unfold kKeep at a1 a2 a3
        go_wp2_with fail
        go_roundw
        case rel => exact ⟨1, by go_num, by omega, HK1.out, by first | exact True.intro | exact rfl⟩
        case measure => simp [intOf]
    | 1, _ =>
      by_cases h0 : l = kNews
      · have HR : Hid (hd = (kNews, 0, true)) := by
          show _ = _
          rw [← hhd.out]
          unfold headR; rw [if_neg (HK.out.1 (by omega)), if_pos h0]
        have h1 : l = [110, 101, 119, 115] := h0
        subst h1
        go_wp2_with fail
        rw [show w.heap.size = N from hN.out]
        obtain ⟨z0, z1, z2, z3⟩ := heap_cells4 (set4 HHN.out (.string ⟨(kNews).toArray⟩) (.int .i64 (0)) (.slice none 0 0) (.slice none 0 0))
        refine bodyPost_ret (v := .tuple #[.agg #[.string ⟨(kNews).toArray⟩, .int .i64 (0), .slice none 0 0, .slice none 0 0], .bool (true)]) (by simp [results, Tryz.results98, go_sem, z0, z1, z2, z3]) rfl ⟨by rw [HR.out], ?_⟩
        exact (((HBW.out.setCell (Nat.le_refl _) _).setCell (Nat.le_refl _) _).setCell (Nat.le_refl _) _).setCell (Nat.le_refl _) _
      · obtain ⟨a1, a2, a3⟩ := str_eqs h0
        have HK1 : Hid ((0 < 2 → ¬ l = kKeep) ∧ (1 < 2 → ¬ l = kNews)) := ⟨fun _ => HK.out.1 (by omega), fun _ => h0⟩
        unfold kNews at a1 a2 a3
        go_wp2_with fail
        go_roundw
        case rel => exact ⟨2, by go_num, by omega, HK1.out, by first | exact True.intro | exact rfl⟩
        case measure => simp [intOf]
    | 2, _ =>
      obtain ⟨W2, hW2⟩ : ∃ W2, Hid (wr.alloc (.cells #[.string ⟨#[111, 112, 101, 110]⟩, .string ⟨#[110, 111, 116, 101]⟩] 9) = W2) := ⟨_, show _ = _ from rfl⟩
      have hb2 : Below wr.heap.size wr W2 := by rw [← hW2.out]; exact below_alloc _ _
      obtain ⟨HB2⟩ : Nonempty (Hid (Below N w W2)) := ⟨HBW.out.trans (hb2.mono (by have := HH.out.2.2.2; omega))⟩
      have hs2 := HH.out.2.2.2
      obtain ⟨HH2⟩ : Nonempty (Hid (W2.heap[N]? = some (.cells #[.string ⟨#[]⟩, .int .i64 0, .slice none 0 0, .slice none 0 0] 55 (0, 0)))) := ⟨by rw [hb2.block N (by omega)]; exact HH.out.1⟩
      have e0 : W2.cell? ⟨N + 2, 0, none⟩ = some (.string ⟨#[111, 112, 101, 110]⟩) := by rw [← hW2.out, World.cell?_alloc_at _ _ _ _ hs2.symm]; rfl
      have e1 : W2.cell? ⟨N + 2, 1, none⟩ = some (.string ⟨#[110, 111, 116, 101]⟩) := by rw [← hW2.out, World.cell?_alloc_at _ _ _ _ hs2.symm]; rfl
      have c0 := cell_kept hb2 c0
      have c1 := cell_kept hb2 c1
      have c2 := cell_kept hb2 c2
      have c3 := cell_kept hb2 c3
      have hf2 : ∀ o, W2.frozen? ⟨N, o, none⟩ = false := fun o => by
        rw [World.frozen?_of_block (w := wr) (hb2.block N (by omega))]; exact f0 o
      go_wp2_with fail
      rw [show wr.alloc (.cells #[.string ⟨#[111, 112, 101, 110]⟩, .string ⟨#[110, 111, 116, 101]⟩] 9) = W2 from hW2.out]
      try rw [show wr.heap.size = N + 2 from hs2]
      clear hb2 hs2
      go_loopw [26] (fun i wr => ∃ k : Nat, i = .int .i64 k ∧ k ≤ 2 ∧ Hid ((0 < k → Lib.hasPrefix l (kOpen ++ [32]) = false) ∧ (1 < k → Lib.hasPrefix l (kNote ++ [32]) = false)) ∧ wr = W2) (fun i _ => 2 - (intOf i).toNat)
      case atStart => exact ⟨0, rfl, by omega, ⟨by omega, by omega⟩, rfl⟩
      case round =>
        obtain ⟨k, rfl, hk, HK2, rfl⟩ := hrel
        obtain ⟨HBW⟩ : Nonempty (Hid _) := ⟨HB2.out⟩
        obtain ⟨HHN⟩ : Nonempty (Hid _) := ⟨HH2.out⟩
        match k, hk with
        | 0, _ =>
          obtain ⟨b, hb⟩ : ∃ x, Hid (Lib.hasPrefix l (kOpen ++ [32]) = x) := ⟨_, show _ = _ from rfl⟩
          go_wp2_with fail
          refine (wcutPrefix_any l (kOpen ++ [32]) _ (by rfl) _).mono ?_
          rintro e w9 ⟨rfl, rfl⟩
          rw [show Lib.hasPrefix l (kOpen ++ [32]) = b from hb.out]
          cases b with
          | true =>
            have hT : Lib.trimPrefix l (kOpen ++ [32]) = l.drop 5 := by unfold Lib.trimPrefix; rw [if_pos hb.out]; rfl
            rw [hT]
            have HR : Hid (hd = (kOpen, numOf (l.drop 5), okNum (l.drop 5))) := by
              show _ = _
              rw [← hhd.out]
              unfold headR; rw [if_neg (HK.out.1 (by omega)), if_neg (HK.out.2 (by omega)), if_pos hb.out]
            obtain ⟨x, hx⟩ : ∃ x, Hid (l.drop 5 = x) := ⟨_, show _ = _ from rfl⟩
            have hxl : (ByteArray.mk x.toArray).size ≤ maxLen := by rw [← hx.out]; unfold maxLen; simp [ByteArray.size]; omega
            rw [show l.drop 5 = x from hx.out] at HR ⊢
            obtain ⟨HN⟩ : Nonempty (Hid (∀ w', Calls _ _ _ _ _)) := ⟨fun w' => number_any ⟨x.toArray⟩ w' hxl⟩
            rw [show (ByteArray.mk x.toArray).data.toList = x by simp] at HN
            clear hT hxl
            go_wp2_with fail
            refine (HN.out _).mono ?_
            rintro e w8 ⟨rfl, rfl⟩
            go_wp2_with fail
            rw [show w.heap.size = N from hN.out]
            obtain ⟨z0, z1, z2, z3⟩ := heap_cells4 (set4 HHN.out (.string ⟨([111, 112, 101, 110] : List UInt8).toArray⟩) (.int .i64 (numOf x)) (.slice none 0 0) (.slice none 0 0))
            refine bodyPost_ret (v := .tuple #[.agg #[.string ⟨([111, 112, 101, 110] : List UInt8).toArray⟩, .int .i64 (numOf x), .slice none 0 0, .slice none 0 0], .bool (okNum x)]) (by simp [results, Tryz.results98, go_sem, z0, z1, z2, z3]) rfl ⟨by rw [HR.out]; rfl, ?_⟩
            exact (((HBW.out.setCell (Nat.le_refl _) _).setCell (Nat.le_refl _) _).setCell (Nat.le_refl _) _).setCell (Nat.le_refl _) _
          | false =>
            have HK3 : Hid ((0 < 1 → Lib.hasPrefix l (kOpen ++ [32]) = false) ∧ (1 < 1 → Lib.hasPrefix l (kNote ++ [32]) = false)) := ⟨fun _ => hb.out, by omega⟩
            go_wp2_with fail
            go_roundw
            case rel => first | exact ⟨1, by go_num, by omega, HK3.out, by first | exact True.intro | exact rfl⟩ | ((repeat apply Exists.intro); exact ⟨⟨1, by go_num, by omega, HK3.out, by first | exact True.intro | exact rfl⟩, rfl⟩)
            case measure => simp [intOf]
        | 1, _ =>
          obtain ⟨b, hb⟩ : ∃ x, Hid (Lib.hasPrefix l (kNote ++ [32]) = x) := ⟨_, show _ = _ from rfl⟩
          go_wp2_with fail
          refine (wcutPrefix_any l (kNote ++ [32]) _ (by rfl) _).mono ?_
          rintro e w9 ⟨rfl, rfl⟩
          rw [show Lib.hasPrefix l (kNote ++ [32]) = b from hb.out]
          cases b with
          | true =>
            have hT : Lib.trimPrefix l (kNote ++ [32]) = l.drop 5 := by unfold Lib.trimPrefix; rw [if_pos hb.out]; rfl
            rw [hT]
            have HR : Hid (hd = (kNote, numOf (l.drop 5), okNum (l.drop 5))) := by
              show _ = _
              rw [← hhd.out]
              unfold headR; rw [if_neg (HK.out.1 (by omega)), if_neg (HK.out.2 (by omega)), if_neg (by rw [HK2.out.1 (by omega)]; decide), if_pos hb.out]
            obtain ⟨x, hx⟩ : ∃ x, Hid (l.drop 5 = x) := ⟨_, show _ = _ from rfl⟩
            have hxl : (ByteArray.mk x.toArray).size ≤ maxLen := by rw [← hx.out]; unfold maxLen; simp [ByteArray.size]; omega
            rw [show l.drop 5 = x from hx.out] at HR ⊢
            obtain ⟨HN⟩ : Nonempty (Hid (∀ w', Calls _ _ _ _ _)) := ⟨fun w' => number_any ⟨x.toArray⟩ w' hxl⟩
            rw [show (ByteArray.mk x.toArray).data.toList = x by simp] at HN
            clear hT hxl
            go_wp2_with fail
            refine (HN.out _).mono ?_
            rintro e w8 ⟨rfl, rfl⟩
            go_wp2_with fail
            rw [show w.heap.size = N from hN.out]
            obtain ⟨z0, z1, z2, z3⟩ := heap_cells4 (set4 HHN.out (.string ⟨([110, 111, 116, 101] : List UInt8).toArray⟩) (.int .i64 (numOf x)) (.slice none 0 0) (.slice none 0 0))
            refine bodyPost_ret (v := .tuple #[.agg #[.string ⟨([110, 111, 116, 101] : List UInt8).toArray⟩, .int .i64 (numOf x), .slice none 0 0, .slice none 0 0], .bool (okNum x)]) (by simp [results, Tryz.results98, go_sem, z0, z1, z2, z3]) rfl ⟨by rw [HR.out]; rfl, ?_⟩
            exact (((HBW.out.setCell (Nat.le_refl _) _).setCell (Nat.le_refl _) _).setCell (Nat.le_refl _) _).setCell (Nat.le_refl _) _
          | false =>
            have HK3 : Hid ((0 < 2 → Lib.hasPrefix l (kOpen ++ [32]) = false) ∧ (1 < 2 → Lib.hasPrefix l (kNote ++ [32]) = false)) := ⟨fun _ => HK2.out.1 (by omega), fun _ => hb.out⟩
            go_wp2_with fail
            go_roundw
            case rel => first | exact ⟨2, by go_num, by omega, HK3.out, by first | exact True.intro | exact rfl⟩ | ((repeat apply Exists.intro); exact ⟨⟨2, by go_num, by omega, HK3.out, by first | exact True.intro | exact rfl⟩, rfl⟩)
            case measure => simp [intOf]
        | 2, _ =>
          have HR : Hid (hd = ([], 0, false)) := by
            show _ = _
            rw [← hhd.out]
            unfold headR; rw [if_neg (HK.out.1 (by omega)), if_neg (HK.out.2 (by omega)), if_neg (by rw [HK2.out.1 (by omega)]; decide), if_neg (by rw [HK2.out.2 (by omega)]; decide)]
          go_wp2_with fail
          rw [show w.heap.size = N from hN.out]
          obtain ⟨z0, z1, z2, z3⟩ := heap_cells4 (set4 HHN.out (.string ⟨(([] : List UInt8)).toArray⟩) (.int .i64 (0)) (.slice none 0 0) (.slice none 0 0))
          refine bodyPost_ret (v := .tuple #[.agg #[.string ⟨(([] : List UInt8)).toArray⟩, .int .i64 (0), .slice none 0 0, .slice none 0 0], .bool (false)]) (by simp [results, Tryz.results98, go_sem, z0, z1, z2, z3]) rfl ⟨by rw [HR.out], ?_⟩
          exact (((HBW.out.setCell (Nat.le_refl _) _).setCell (Nat.le_refl _) _).setCell (Nat.le_refl _) _).setCell (Nat.le_refl _) _
end Go.Proofs.YtbfdgflbflajdaaGreatDoor
