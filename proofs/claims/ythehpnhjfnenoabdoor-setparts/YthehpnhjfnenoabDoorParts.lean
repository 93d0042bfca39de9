/-
  The law SetParts: whatever three lists of prefixes: true.
-/
import Derived.Test.YthehpnhjfnenoabDoorSetSame
namespace Go.Proofs.YthehpnhjfnenoabDoor
open Go.RowKit

theorem Holdn.below {w w' : World} {v : Value} {L : List (Int × Int)} {g : Int → Bool} (h : Holdn w v L g) (hb : Below w.heap.size w w') : Holdn w' v L g := by
  obtain ⟨q, c, e, h1, h2, h3⟩ := h.row
  exact ⟨h.np, h.has, ⟨q, c, e, h1, h2, h3.below hb⟩, h.kind, h.typed.below hb⟩
theorem Holdn.get {w : World} {v : Value} {L : List (Int × Int)} {g : Int → Bool} (h : Holdn w v L g) : ∃ q c, v = .slice q L.length c ∧ Pairs w q L ∧ NP L ∧ (∀ x, inPB L x = g x) ∧ L.length ≤ 4294967296 := by
  obtain ⟨q, c, e, -, -, h3⟩ := h.row
  exact ⟨q, c, e, h3, h.np, fun x => bool_of_iff (inPB_iff _ _) Iff.rfl (h.has x), h.np.few⟩
theorem no_fault {w : World} {v : Value} {a : List (Int × Int)} {eb es : Addr} (h : Faults w v a a.length eb es) : False := by
  obtain ⟨h, -⟩ := h; omega
theorem np_nil {L : List (Int × Int)} (h : NP L) (h0 : ∀ x, inPB L x = false) : L = [] :=
  np_unique L [] h trivial (fun x => ⟨fun hx => by have := (inPB_iff L x).2 hx; rw [h0] at this; simp at this, fun hx => absurd hx (inP_nil _)⟩)
theorem np_same {L M : List (Int × Int)} (hL : NP L) (hM : NP M) (h : ∀ x, inPB L x = inPB M x) : L = M :=
  np_unique L M hL hM (fun x => by rw [← inPB_iff, ← inPB_iff, h])

/-- what stands behind the three calls of Norm, where nothing is wrong. -/
structure PIn (w : World) (et eb es : Addr) (a b c : List (Int × Int)) (pa pb pc : Option Addr) : Prop where
  env : SetEnv w et eb es
  ra : RightTo a a.length
  rb : RightTo b b.length
  rc : RightTo c c.length
  pa : Pairs w pa a
  pb : Pairs w pb b
  pc : Pairs w pc c
theorem PIn.below {w w' : World} {et eb es : Addr} {a b c : List (Int × Int)} {pa pb pc : Option Addr} (h : PIn w et eb es a b c pa pb pc) (hb : Below w.heap.size w w') : PIn w' et eb es a b c pa pb pc :=
  ⟨h.env.below hb, h.ra, h.rb, h.rc, h.pa.below hb, h.pb.below hb, h.pc.below hb⟩

set_option linter.unusedVariables false in
set_option maxRecDepth 100000 in
set_option maxHeartbeats 8000000 in
theorem parts_any (a b c : List (Int × Int)) (pa pb pc : Option Addr) (ca cb cc : Nat) (et eb es : Addr) (w : World) (hE : SetEnv w et eb es) (hpa : Pairs w pa a) (hpb : Pairs w pb b) (hpc : Pairs w pc c) :
    Calls Tryd.prog 3 #[.slice pa a.length ca, .slice pb b.length cb, .slice pc c.length cc] w fun e w' => e = .returned (.bool true) ∧ Below w.heap.size w w' := by
  obtain ⟨i, hi⟩ := right_to a
  obtain ⟨j, hj⟩ := right_to b
  obtain ⟨k, hk⟩ := right_to c
  obtain ⟨HST⟩ : Nonempty (Hid (Calls _ _ _ _ _)) := ⟨setted_any et eb es w hE⟩
  obtain ⟨HI⟩ : Nonempty (Hid (SetEnv w et eb es ∧ Pairs w pa a ∧ Pairs w pb b ∧ Pairs w pc c ∧ RightTo a i ∧ RightTo b j ∧ RightTo c k)) := ⟨⟨hE, hpa, hpb, hpc, hi, hj, hk⟩⟩
  clear hE hpa hpb hpc hi hj hk
  go_enter Tryd.func3, Tryd.ntmps3
  go_wp2_with fail
  refine HST.out.mono ?_
  rintro e w1 ⟨rfl, hb1⟩
  clear HST
  by_cases hla : 15 < a.length
  · have h1 : (15 : Int) < (a.length : Int) := by omega
    go_wp2
    go_ret
    exact ⟨rfl, hb1⟩
  by_cases hlb : 15 < b.length
  · have h1 : (15 : Int) < (b.length : Int) := by omega
    have h2 : ¬ (15 : Int) < (a.length : Int) := by omega
    go_wp2
    go_ret
    exact ⟨rfl, hb1⟩
  by_cases hlc : 15 < c.length
  · have h1 : (15 : Int) < (c.length : Int) := by omega
    have h2 : ¬ (15 : Int) < (a.length : Int) := by omega
    have h3 : ¬ (15 : Int) < (b.length : Int) := by omega
    go_wp2
    go_ret
    exact ⟨rfl, hb1⟩
  have h1 : ¬ (15 : Int) < (a.length : Int) := by omega
  have h2 : ¬ (15 : Int) < (b.length : Int) := by omega
  have h3 : ¬ (15 : Int) < (c.length : Int) := by omega
  obtain ⟨HN⟩ : Nonempty (Hid (Calls _ _ _ _ _)) := ⟨norm_any a i HI.out.2.2.2.2.1 pa ca et eb es w1 (HI.out.1.below hb1) (HI.out.2.1.below hb1) (by omega)⟩
  go_wp2_with fail
  refine HN.out.mono ?_
  clear HN
  rintro e w2 ⟨hnA, hb2⟩
  have hb12 := hb1.trans (hb2.mono hb1.size)
  obtain ⟨HN⟩ : Nonempty (Hid (Calls _ _ _ _ _)) := ⟨norm_any b j HI.out.2.2.2.2.2.1 pb cb et eb es w2 (HI.out.1.below hb12) (HI.out.2.2.1.below hb12) (by omega)⟩
  clear hb1
  rcases hnA with ⟨hia, LA, vA, rfl, hGA⟩ | ⟨vA, rfl, hFA⟩
  · obtain ⟨HA⟩ : Nonempty (Hid (i = a.length ∧ Holdn w2 vA LA (inPB a))) := ⟨⟨hia, hGA⟩⟩
    clear hia hGA hb2
    go_wp2_with fail
    refine HN.out.mono ?_
    clear HN
    rintro e w3 ⟨hnB, hb3⟩
    have hb13 := hb12.trans (hb3.mono hb12.size)
    obtain ⟨HN⟩ : Nonempty (Hid (Calls _ _ _ _ _)) := ⟨norm_any c k HI.out.2.2.2.2.2.2 pc cc et eb es w3 (HI.out.1.below hb13) (HI.out.2.2.2.1.below hb13) (by omega)⟩
    rcases hnB with ⟨hjb, LB, vB, rfl, hGB⟩ | ⟨vB, rfl, hFB⟩
    · obtain ⟨HB⟩ : Nonempty (Hid (j = b.length ∧ Holdn w3 vB LB (inPB b) ∧ Holdn w3 vA LA (inPB a))) := ⟨⟨hjb, hGB, HA.out.2.below hb3⟩⟩
      clear hjb hGB hb3 hb12
      go_wp2_with fail
      refine HN.out.mono ?_
      clear HN
      rintro e w4 ⟨⟨hkc, LC, vC, rfl, hGC⟩ | ⟨vC, rfl, hFC⟩, hb4⟩
      · skip
        have hik : i = a.length ∧ j = b.length ∧ k = c.length := ⟨HA.out.1, HB.out.1, hkc⟩
        obtain ⟨qA, cA, hvA, hpA, hs1, hs2, hs3⟩ := (HB.out.2.2.below hb4).get
        obtain ⟨qB, cB, hvB, hpB, ht1, ht2, ht3⟩ := (HB.out.2.1.below hb4).get
        obtain ⟨HSA⟩ : Nonempty (Hid (NP LA ∧ (∀ x, inPB LA x = inPB a x) ∧ LA.length ≤ 4294967296)) := ⟨⟨hs1, hs2, hs3⟩⟩
        obtain ⟨HSB⟩ : Nonempty (Hid (NP LB ∧ (∀ x, inPB LB x = inPB b x) ∧ LB.length ≤ 4294967296)) := ⟨⟨ht1, ht2, ht3⟩⟩
        have hbt := hb13.trans (hb4.mono hb13.size)
        have hin := HI.out
        rw [hik.1, hik.2.1, hik.2.2] at hin
        obtain ⟨HP⟩ : Nonempty (Hid (PIn w4 et eb es a b c pa pb pc ∧ Pairs w4 qA LA ∧ Pairs w4 qB LB ∧ True)) := ⟨⟨⟨hin.1.below hbt, hin.2.2.2.2.1, hin.2.2.2.2.2.1, hin.2.2.2.2.2.2, hin.2.1.below hbt, hin.2.2.1.below hbt, hin.2.2.2.1.below hbt⟩, hpA, hpB, trivial⟩⟩
        subst hvA
        subst hvB
        obtain ⟨qC, cC, rfl, -, -, -, -⟩ := hGC.get
        clear hik hin hpA hpB hs1 hs2 hs3 ht1 ht2 ht3 HA HB HI hkc hGC hb4 hb13
        obtain ⟨HN⟩ : Nonempty (Hid (Calls _ _ _ _ _)) := ⟨Not_any a b a.length b.length HP.out.1.ra HP.out.1.rb pa pb ca cb et eb es w4 HP.out.1.env HP.out.1.pa HP.out.1.pb (by omega) (by omega)⟩
        go_wp2_with fail
        refine HN.out.mono ?_
        clear HN
        rintro e w5 ⟨⟨-, -, Loff, v, rfl, hG⟩ | ⟨v, -, hF⟩ | ⟨-, v, -, hF⟩, hb⟩
        rotate_left
        · exact (no_fault hF).elim
        · exact (no_fault hF).elim
        obtain ⟨qoff, coff, rfl, hpN, hs1, hs2, hs3⟩ := hG.get
        obtain ⟨HSoff⟩ : Nonempty (Hid (NP Loff ∧ (∀ x, inPB Loff x = askB (fun x y => x && !y) a b x) ∧ Loff.length ≤ 4294967296)) := ⟨⟨hs1, hs2, hs3⟩⟩
        clear hG hs1 hs2 hs3
        obtain ⟨HP'⟩ : Nonempty (Hid (PIn w5 et eb es a b c pa pb pc ∧ Pairs w5 qA LA ∧ Pairs w5 qB LB ∧ Pairs w5 qoff Loff ∧ True)) := ⟨⟨HP.out.1.below hb, HP.out.2.1.below hb, HP.out.2.2.1.below hb, hpN, trivial⟩⟩
        have hbt' := hbt.trans (hb.mono hbt.size)
        clear HP hb hbt hpN
        have HP := HP'
        have hbt := hbt'
        clear HP' hbt'
        obtain ⟨HN⟩ : Nonempty (Hid (Calls _ _ _ _ _)) := ⟨And_any a b a.length b.length HP.out.1.ra HP.out.1.rb pa pb ca cb et eb es w5 HP.out.1.env HP.out.1.pa HP.out.1.pb (by omega) (by omega)⟩
        go_wp2_with fail
        refine HN.out.mono ?_
        clear HN
        rintro e w6 ⟨⟨-, -, Land, v, rfl, hG⟩ | ⟨v, -, hF⟩ | ⟨-, v, -, hF⟩, hb⟩
        rotate_left
        · exact (no_fault hF).elim
        · exact (no_fault hF).elim
        obtain ⟨qand, cand, rfl, hpN, hs1, hs2, hs3⟩ := hG.get
        obtain ⟨HSand⟩ : Nonempty (Hid (NP Land ∧ (∀ x, inPB Land x = askB (fun x y => x && y) a b x) ∧ Land.length ≤ 4294967296)) := ⟨⟨hs1, hs2, hs3⟩⟩
        clear hG hs1 hs2 hs3
        obtain ⟨HP'⟩ : Nonempty (Hid (PIn w6 et eb es a b c pa pb pc ∧ Pairs w6 qA LA ∧ Pairs w6 qB LB ∧ Pairs w6 qoff Loff ∧ Pairs w6 qand Land ∧ True)) := ⟨⟨HP.out.1.below hb, HP.out.2.1.below hb, HP.out.2.2.1.below hb, HP.out.2.2.2.1.below hb, hpN, trivial⟩⟩
        have hbt' := hbt.trans (hb.mono hbt.size)
        clear HP hb hbt hpN
        have HP := HP'
        have hbt := hbt'
        clear HP' hbt'
        obtain ⟨HN⟩ : Nonempty (Hid (Calls _ _ _ _ _)) := ⟨Or_any Loff Land Loff.length Land.length (rights_to HSoff.out.1.right) (rights_to HSand.out.1.right) qoff qand coff cand et eb es w6 HP.out.1.env HP.out.2.2.2.1 HP.out.2.2.2.2.1 (by have := HSoff.out.2.2; omega) (by have := HSand.out.2.2; omega)⟩
        go_wp2_with fail
        refine HN.out.mono ?_
        clear HN
        rintro e w7 ⟨⟨-, -, Lback, v, rfl, hG⟩ | ⟨v, -, hF⟩ | ⟨-, v, -, hF⟩, hb⟩
        rotate_left
        · exact (no_fault hF).elim
        · exact (no_fault hF).elim
        obtain ⟨qback, cback, rfl, hpN, hs1, hs2, hs3⟩ := hG.get
        obtain ⟨HSback⟩ : Nonempty (Hid (NP Lback ∧ (∀ x, inPB Lback x = askB (fun x y => x || y) Loff Land x) ∧ Lback.length ≤ 4294967296)) := ⟨⟨hs1, hs2, hs3⟩⟩
        clear hG hs1 hs2 hs3
        obtain ⟨HP'⟩ : Nonempty (Hid (PIn w7 et eb es a b c pa pb pc ∧ Pairs w7 qA LA ∧ Pairs w7 qB LB ∧ Pairs w7 qoff Loff ∧ Pairs w7 qand Land ∧ Pairs w7 qback Lback ∧ True)) := ⟨⟨HP.out.1.below hb, HP.out.2.1.below hb, HP.out.2.2.1.below hb, HP.out.2.2.2.1.below hb, HP.out.2.2.2.2.1.below hb, hpN, trivial⟩⟩
        have hbt' := hbt.trans (hb.mono hbt.size)
        clear HP hb hbt hpN
        have HP := HP'
        have hbt := hbt'
        clear HP' hbt'
        obtain ⟨HN⟩ : Nonempty (Hid (Calls _ _ _ _ _)) := ⟨samePrefixes_any Lback LA qback qA cback cA w7 HP.out.2.2.2.2.2.1 HP.out.2.1 (by have := HSback.out.2.2; omega)⟩
        have hsame : decide (Lback = LA) = true := decide_eq_true (np_same HSback.out.1 HSA.out.1 (fun z => by rw [HSback.out.2.1, HSA.out.2.1]; unfold askB; rw [HSoff.out.2.1, HSand.out.2.1]; unfold askB; cases inPB a z <;> cases inPB b z <;> rfl))
        rw [hsame] at HN
        clear hsame
        go_wp2_with fail
        refine HN.out.mono ?_
        clear HN
        rintro e w8 ⟨rfl, hb⟩
        obtain ⟨HP'⟩ : Nonempty (Hid (PIn w8 et eb es a b c pa pb pc ∧ Pairs w8 qA LA ∧ Pairs w8 qB LB ∧ Pairs w8 qoff Loff ∧ Pairs w8 qand Land ∧ Pairs w8 qback Lback ∧ True)) := ⟨⟨HP.out.1.below hb, HP.out.2.1.below hb, HP.out.2.2.1.below hb, HP.out.2.2.2.1.below hb, HP.out.2.2.2.2.1.below hb, HP.out.2.2.2.2.2.1.below hb, trivial⟩⟩
        have hbt' := hbt.trans (hb.mono hbt.size)
        clear HP hb hbt
        have HP := HP'
        have hbt := hbt'
        clear HP' hbt'
        obtain ⟨HN⟩ : Nonempty (Hid (Calls _ _ _ _ _)) := ⟨Or_any b c b.length c.length HP.out.1.rb HP.out.1.rc pb pc cb cc et eb es w8 HP.out.1.env HP.out.1.pb HP.out.1.pc (by omega) (by omega)⟩
        go_wp2_with fail
        refine HN.out.mono ?_
        clear HN
        rintro e w9 ⟨⟨-, -, Lboth, v, rfl, hG⟩ | ⟨v, -, hF⟩ | ⟨-, v, -, hF⟩, hb⟩
        rotate_left
        · exact (no_fault hF).elim
        · exact (no_fault hF).elim
        obtain ⟨qboth, cboth, rfl, hpN, hs1, hs2, hs3⟩ := hG.get
        obtain ⟨HSboth⟩ : Nonempty (Hid (NP Lboth ∧ (∀ x, inPB Lboth x = askB (fun x y => x || y) b c x) ∧ Lboth.length ≤ 4294967296)) := ⟨⟨hs1, hs2, hs3⟩⟩
        clear hG hs1 hs2 hs3
        obtain ⟨HP'⟩ : Nonempty (Hid (PIn w9 et eb es a b c pa pb pc ∧ Pairs w9 qA LA ∧ Pairs w9 qB LB ∧ Pairs w9 qoff Loff ∧ Pairs w9 qand Land ∧ Pairs w9 qback Lback ∧ Pairs w9 qboth Lboth ∧ True)) := ⟨⟨HP.out.1.below hb, HP.out.2.1.below hb, HP.out.2.2.1.below hb, HP.out.2.2.2.1.below hb, HP.out.2.2.2.2.1.below hb, HP.out.2.2.2.2.2.1.below hb, hpN, trivial⟩⟩
        have hbt' := hbt.trans (hb.mono hbt.size)
        clear HP hb hbt hpN
        have HP := HP'
        have hbt := hbt'
        clear HP' hbt'
        obtain ⟨HN⟩ : Nonempty (Hid (Calls _ _ _ _ _)) := ⟨Not_any a Lboth a.length Lboth.length HP.out.1.ra (rights_to HSboth.out.1.right) pa qboth ca cboth et eb es w9 HP.out.1.env HP.out.1.pa HP.out.2.2.2.2.2.2.1 (by omega) (by have := HSboth.out.2.2; omega)⟩
        go_wp2_with fail
        refine HN.out.mono ?_
        clear HN
        rintro e w10 ⟨⟨-, -, Lone, v, rfl, hG⟩ | ⟨v, -, hF⟩ | ⟨-, v, -, hF⟩, hb⟩
        rotate_left
        · exact (no_fault hF).elim
        · exact (no_fault hF).elim
        obtain ⟨qone, cone, rfl, hpN, hs1, hs2, hs3⟩ := hG.get
        obtain ⟨HSone⟩ : Nonempty (Hid (NP Lone ∧ (∀ x, inPB Lone x = askB (fun x y => x && !y) a Lboth x) ∧ Lone.length ≤ 4294967296)) := ⟨⟨hs1, hs2, hs3⟩⟩
        clear hG hs1 hs2 hs3
        obtain ⟨HP'⟩ : Nonempty (Hid (PIn w10 et eb es a b c pa pb pc ∧ Pairs w10 qA LA ∧ Pairs w10 qB LB ∧ Pairs w10 qoff Loff ∧ Pairs w10 qand Land ∧ Pairs w10 qback Lback ∧ Pairs w10 qboth Lboth ∧ Pairs w10 qone Lone ∧ True)) := ⟨⟨HP.out.1.below hb, HP.out.2.1.below hb, HP.out.2.2.1.below hb, HP.out.2.2.2.1.below hb, HP.out.2.2.2.2.1.below hb, HP.out.2.2.2.2.2.1.below hb, HP.out.2.2.2.2.2.2.1.below hb, hpN, trivial⟩⟩
        have hbt' := hbt.trans (hb.mono hbt.size)
        clear HP hb hbt hpN
        have HP := HP'
        have hbt := hbt'
        clear HP' hbt'
        obtain ⟨HN⟩ : Nonempty (Hid (Calls _ _ _ _ _)) := ⟨Not_any Loff c Loff.length c.length (rights_to HSoff.out.1.right) HP.out.1.rc qoff pc coff cc et eb es w10 HP.out.1.env HP.out.2.2.2.1 HP.out.1.pc (by have := HSoff.out.2.2; omega) (by omega)⟩
        go_wp2_with fail
        refine HN.out.mono ?_
        clear HN
        rintro e w11 ⟨⟨-, -, Ltwo, v, rfl, hG⟩ | ⟨v, -, hF⟩ | ⟨-, v, -, hF⟩, hb⟩
        rotate_left
        · exact (no_fault hF).elim
        · exact (no_fault hF).elim
        obtain ⟨qtwo, ctwo, rfl, hpN, hs1, hs2, hs3⟩ := hG.get
        obtain ⟨HStwo⟩ : Nonempty (Hid (NP Ltwo ∧ (∀ x, inPB Ltwo x = askB (fun x y => x && !y) Loff c x) ∧ Ltwo.length ≤ 4294967296)) := ⟨⟨hs1, hs2, hs3⟩⟩
        clear hG hs1 hs2 hs3
        obtain ⟨HP'⟩ : Nonempty (Hid (PIn w11 et eb es a b c pa pb pc ∧ Pairs w11 qA LA ∧ Pairs w11 qB LB ∧ Pairs w11 qoff Loff ∧ Pairs w11 qand Land ∧ Pairs w11 qback Lback ∧ Pairs w11 qboth Lboth ∧ Pairs w11 qone Lone ∧ Pairs w11 qtwo Ltwo ∧ True)) := ⟨⟨HP.out.1.below hb, HP.out.2.1.below hb, HP.out.2.2.1.below hb, HP.out.2.2.2.1.below hb, HP.out.2.2.2.2.1.below hb, HP.out.2.2.2.2.2.1.below hb, HP.out.2.2.2.2.2.2.1.below hb, HP.out.2.2.2.2.2.2.2.1.below hb, hpN, trivial⟩⟩
        have hbt' := hbt.trans (hb.mono hbt.size)
        clear HP hb hbt hpN
        have HP := HP'
        have hbt := hbt'
        clear HP' hbt'
        obtain ⟨HN⟩ : Nonempty (Hid (Calls _ _ _ _ _)) := ⟨samePrefixes_any Lone Ltwo qone qtwo cone ctwo w11 HP.out.2.2.2.2.2.2.2.1 HP.out.2.2.2.2.2.2.2.2.1 (by have := HSone.out.2.2; omega)⟩
        have hsame : decide (Lone = Ltwo) = true := decide_eq_true (np_same HSone.out.1 HStwo.out.1 (fun z => by rw [HSone.out.2.1, HStwo.out.2.1]; unfold askB; rw [HSoff.out.2.1, HSboth.out.2.1]; unfold askB; cases inPB a z <;> cases inPB b z <;> cases inPB c z <;> rfl))
        rw [hsame] at HN
        clear hsame
        go_wp2_with fail
        refine HN.out.mono ?_
        clear HN
        rintro e w12 ⟨rfl, hb⟩
        obtain ⟨HP'⟩ : Nonempty (Hid (PIn w12 et eb es a b c pa pb pc ∧ Pairs w12 qA LA ∧ Pairs w12 qB LB ∧ Pairs w12 qoff Loff ∧ Pairs w12 qand Land ∧ Pairs w12 qback Lback ∧ Pairs w12 qboth Lboth ∧ Pairs w12 qone Lone ∧ Pairs w12 qtwo Ltwo ∧ True)) := ⟨⟨HP.out.1.below hb, HP.out.2.1.below hb, HP.out.2.2.1.below hb, HP.out.2.2.2.1.below hb, HP.out.2.2.2.2.1.below hb, HP.out.2.2.2.2.2.1.below hb, HP.out.2.2.2.2.2.2.1.below hb, HP.out.2.2.2.2.2.2.2.1.below hb, HP.out.2.2.2.2.2.2.2.2.1.below hb, trivial⟩⟩
        have hbt' := hbt.trans (hb.mono hbt.size)
        clear HP hb hbt
        have HP := HP'
        have hbt := hbt'
        clear HP' hbt'
        obtain ⟨HN⟩ : Nonempty (Hid (Calls _ _ _ _ _)) := ⟨Not_any b a b.length a.length HP.out.1.rb HP.out.1.ra pb pa cb ca et eb es w12 HP.out.1.env HP.out.1.pb HP.out.1.pa (by omega) (by omega)⟩
        go_wp2_with fail
        refine HN.out.mono ?_
        clear HN
        rintro e w13 ⟨⟨-, -, Lother, v, rfl, hG⟩ | ⟨v, -, hF⟩ | ⟨-, v, -, hF⟩, hb⟩
        rotate_left
        · exact (no_fault hF).elim
        · exact (no_fault hF).elim
        obtain ⟨qother, cother, rfl, hpN, hs1, hs2, hs3⟩ := hG.get
        obtain ⟨HSother⟩ : Nonempty (Hid (NP Lother ∧ (∀ x, inPB Lother x = askB (fun x y => x && !y) b a x) ∧ Lother.length ≤ 4294967296)) := ⟨⟨hs1, hs2, hs3⟩⟩
        clear hG hs1 hs2 hs3
        obtain ⟨HP'⟩ : Nonempty (Hid (PIn w13 et eb es a b c pa pb pc ∧ Pairs w13 qA LA ∧ Pairs w13 qB LB ∧ Pairs w13 qoff Loff ∧ Pairs w13 qand Land ∧ Pairs w13 qback Lback ∧ Pairs w13 qboth Lboth ∧ Pairs w13 qone Lone ∧ Pairs w13 qtwo Ltwo ∧ Pairs w13 qother Lother ∧ True)) := ⟨⟨HP.out.1.below hb, HP.out.2.1.below hb, HP.out.2.2.1.below hb, HP.out.2.2.2.1.below hb, HP.out.2.2.2.2.1.below hb, HP.out.2.2.2.2.2.1.below hb, HP.out.2.2.2.2.2.2.1.below hb, HP.out.2.2.2.2.2.2.2.1.below hb, HP.out.2.2.2.2.2.2.2.2.1.below hb, hpN, trivial⟩⟩
        have hbt' := hbt.trans (hb.mono hbt.size)
        clear HP hb hbt hpN
        have HP := HP'
        have hbt := hbt'
        clear HP' hbt'
        have hend : (LA = LB ∧ Loff = [] ∧ Lother = []) ∨ (¬ LA = LB ∧ ¬ Loff = []) ∨ (¬ LA = LB ∧ ¬ Lother = []) := by
          by_cases hAB : LA = LB
          · left
            have hab : ∀ z, inPB a z = inPB b z := fun z => by rw [← HSA.out.2.1, ← HSB.out.2.1, hAB]
            refine ⟨hAB, np_nil HSoff.out.1 fun z => ?_, np_nil HSother.out.1 fun z => ?_⟩
            · rw [HSoff.out.2.1]; unfold askB; rw [hab]; cases inPB b z <;> rfl
            · rw [HSother.out.2.1]; unfold askB; rw [hab]; cases inPB b z <;> rfl
          · right
            by_cases ho : Loff = []
            · right
              refine ⟨hAB, fun ht => hAB (np_same HSA.out.1 HSB.out.1 fun z => ?_)⟩
              have h1 := HSoff.out.2.1 z
              have h2 := HSother.out.2.1 z
              rw [ho] at h1
              rw [ht] at h2
              unfold askB at h1 h2
              rw [HSA.out.2.1, HSB.out.2.1]
              cases ha : inPB a z <;> cases hb : inPB b z <;> rw [ha, hb] at h1 h2 <;> first | rfl | (simp [inPB] at h1 h2)
            · left; exact ⟨hAB, ho⟩
        obtain ⟨HEND⟩ : Nonempty (Hid _) := ⟨hend⟩
        clear hend
        obtain ⟨HN⟩ : Nonempty (Hid (Calls _ _ _ _ _)) := ⟨samePrefixes_any LA LB qA qB cA cB w13 HP.out.2.1 HP.out.2.2.1 (by have := HSA.out.2.2; omega)⟩
        go_wp2_with fail
        refine HN.out.mono ?_
        clear HN
        rintro e w14 ⟨rfl, hb⟩
        obtain ⟨HP'⟩ : Nonempty (Hid (PIn w14 et eb es a b c pa pb pc ∧ Pairs w14 qA LA ∧ Pairs w14 qB LB ∧ Pairs w14 qoff Loff ∧ Pairs w14 qand Land ∧ Pairs w14 qback Lback ∧ Pairs w14 qboth Lboth ∧ Pairs w14 qone Lone ∧ Pairs w14 qtwo Ltwo ∧ Pairs w14 qother Lother ∧ True)) := ⟨⟨HP.out.1.below hb, HP.out.2.1.below hb, HP.out.2.2.1.below hb, HP.out.2.2.2.1.below hb, HP.out.2.2.2.2.1.below hb, HP.out.2.2.2.2.2.1.below hb, HP.out.2.2.2.2.2.2.1.below hb, HP.out.2.2.2.2.2.2.2.1.below hb, HP.out.2.2.2.2.2.2.2.2.1.below hb, HP.out.2.2.2.2.2.2.2.2.2.1.below hb, trivial⟩⟩
        have hbt' := hbt.trans (hb.mono hbt.size)
        clear HP hb hbt
        have HP := HP'
        have hbt := hbt'
        clear HP' hbt'
        rcases HEND.out with ⟨hAB, ho, ht⟩ | ⟨hAB, ho⟩ | ⟨hAB, ht⟩
        · rw [decide_eq_true hAB]
          subst ho
          subst ht
          clear hAB HEND
          go_wp2
          go_ret
          exact ⟨rfl, hbt⟩
        · rw [decide_eq_false hAB]
          have h0 : ((Loff.length : Int) == 0) = false := by rw [beq_eq_false_iff_ne]; intro e; exact ho (List.eq_nil_of_length_eq_zero (by omega))
          clear hAB ho HEND
          go_wp2
          go_ret
          exact ⟨rfl, hbt⟩
        · rw [decide_eq_false hAB]
          have h0 : ((Lother.length : Int) == 0) = false := by rw [beq_eq_false_iff_ne]; intro e; exact ht (List.eq_nil_of_length_eq_zero (by omega))
          clear hAB ht HEND
          cases hz : ((Loff.length : Int) == 0)
          all_goals
            go_wp2
            go_ret
            exact ⟨rfl, hbt⟩
      · obtain ⟨-, bb, rfl, -⟩ := hFC
        have hb14 := hb13.trans (hb4.mono hb13.size)
        clear hb4 hb13
        go_wp2
        go_ret
        exact ⟨rfl, hb14⟩
    · obtain ⟨-, bb, rfl, -⟩ := hFB
      clear hb3 hb12
      go_wp2_with fail
      refine HN.out.mono ?_
      clear HN
      rintro e w4 ⟨⟨-, LC, vC, rfl, -⟩ | ⟨vC, rfl, hFC⟩, hb4⟩
      · have hb14 := hb13.trans (hb4.mono hb13.size)
        clear hb4 hb13
        go_wp2
        go_ret
        exact ⟨rfl, hb14⟩
      · have hb14 := hb13.trans (hb4.mono hb13.size)
        clear hb4 hb13 hFC
        go_wp2
        go_ret
        exact ⟨rfl, hb14⟩
  · obtain ⟨-, bb, rfl, -⟩ := hFA
    clear hb2
    go_wp2_with fail
    refine HN.out.mono ?_
    clear HN
    rintro e w3 ⟨hnB, hb3⟩
    have hb13 := hb12.trans (hb3.mono hb12.size)
    obtain ⟨HN⟩ : Nonempty (Hid (Calls _ _ _ _ _)) := ⟨norm_any c k HI.out.2.2.2.2.2.2 pc cc et eb es w3 (HI.out.1.below hb13) (HI.out.2.2.2.1.below hb13) (by omega)⟩
    have hn2 : ∃ v1 v2, e = .returned (.tuple #[v1, v2]) := by
      rcases hnB with ⟨-, L, v, rfl, -⟩ | ⟨v, rfl, -⟩
      · exact ⟨_, _, rfl⟩
      · exact ⟨_, _, rfl⟩
    obtain ⟨v1, v2, rfl⟩ := hn2
    clear hnB hb3 hb12
    go_wp2_with fail
    refine HN.out.mono ?_
    clear HN
    rintro e w4 ⟨hnC, hb4⟩
    have hn3 : ∃ v1 v2, e = .returned (.tuple #[v1, v2]) := by
      rcases hnC with ⟨-, L, v, rfl, -⟩ | ⟨v, rfl, -⟩
      · exact ⟨_, _, rfl⟩
      · exact ⟨_, _, rfl⟩
    obtain ⟨v3, v4, rfl⟩ := hn3
    have hb14 := hb13.trans (hb4.mono hb13.size)
    clear hb4 hb13 hnC
    go_wp2
    go_ret
    exact ⟨rfl, hb14⟩
end Go.Proofs.YthehpnhjfnenoabDoor
