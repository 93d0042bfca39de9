/-
  More of what the walk of herepathlaw1.IpHalves asks of its callees, each answer a letter; a box that was just made.
-/
import Derived.Test.YthehpnhjfnenoaaDoorHalvesBase
import Derived.Test.YthehpnhjfnenoaaDoorRefBase
namespace Go.Proofs.YthehpnhjfnenoaaDoor
open Go.RowKit

theorem halves_at (a n xn ya : Int) (et eb es : Addr) (w : World) (hE : IpErrs w et eb es) (hr : rt a n = true) (hn : n < 32) (hx : Hid (n + 1 = xn)) (hy : Hid (a + pw (n + 1) = ya)) :
    Calls Tryd.prog 14 #[.agg #[.int .i64 a, .int .i64 n]] w fun e w' => e = .returned (.tuple #[.agg #[.int .i64 a, .int .i64 xn], .agg #[.int .i64 ya, .int .i64 xn], .nilIface]) ∧ Below w.heap.size w w' := by
  rw [← hy.out, ← hx.out]
  exact halves_ok a n et eb es w hE hr hn
theorem halves_none_at (a n : Int) (h32 : Hid (n = 32)) (et eb es en : Addr) (w : World) (hE : IpErrs w et eb es) (hN : w.cell? ⟨4, 0, none⟩ = some (.iface 72 (.pointer (some en)))) (hr : rt a n = true) :
    Calls Tryd.prog 14 #[.agg #[.int .i64 a, .int .i64 n]] w fun e w' => e = .returned (.tuple #[.agg #[.int .i64 0, .int .i64 0], .agg #[.int .i64 0, .int .i64 0], .iface 72 (.pointer (some en))]) ∧ Below w.heap.size w w' := by
  have := h32.out; subst this
  exact halves_none a et eb es en w hE hN hr
theorem up_none_at (a n : Int) (h0 : n ≤ 0) (et eb es en : Addr) (w : World) (hE : IpErrs w et eb es) (hN : w.cell? ⟨4, 0, none⟩ = some (.iface 72 (.pointer (some en)))) (hr : rt a n = true) :
    Calls Tryd.prog 17 #[.agg #[.int .i64 a, .int .i64 n]] w fun e w' => e = .returned (.tuple #[.agg #[.int .i64 0, .int .i64 0], .iface 72 (.pointer (some en))]) ∧ Below w.heap.size w w' := by
  obtain ⟨-, ⟨n0, n1⟩, -⟩ := (rt_iff a n).1 hr
  obtain rfl : n = 0 := by omega
  exact up_none a et eb es en w hE hN hr
theorem text_at (a n : Int) (l : List UInt8) (hl : Hid (txtP a n = l)) (et eb es : Addr) (m : Int) (w : World) (h : IpEnv w et eb es m) (hr : rt a n = true) :
    Calls Tryd.prog 22 #[.agg #[.int .i64 a, .int .i64 n]] w fun e w' => e = .returned (.string ⟨l.toArray⟩) ∧ Below w.heap.size w w' := by
  rw [← hl.out]
  exact text_any a n et eb es m w h hr
theorem txtP_size (a n : Int) (hr : rt a n = true) : (ByteArray.mk (txtP a n).toArray).size < 4294967281 := by
  have hA := rt_isA hr
  obtain ⟨-, ⟨n0, n1⟩, -⟩ := (rt_iff a n).1 hr
  obtain ⟨a0, a1⟩ := (isA_iff a).1 hA
  have g1 := itoa_len (a / 16777216) (by omega) (by omega)
  have g2 := itoa_len (a / 65536 % 256) (by omega) (by omega)
  have g3 := itoa_len (a / 256 % 256) (by omega) (by omega)
  have g4 := itoa_len (a % 256) (by omega) (by omega)
  have g5 := itoa_len n (by omega) (by omega)
  show (txtP a n).toArray.size < _
  rw [List.size_toArray]
  unfold txtP txt4
  simp only [List.length_append, List.length_cons]
  omega
theorem reread_at (a n : Int) (l : List UInt8) (hl : Hid (txtP a n = l)) (et eb es : Addr) (m : Int) (w : World) (h : IpEnv w et eb es m) (hr : rt a n = true) :
    Calls Tryd.prog 21 #[.string ⟨l.toArray⟩] w fun e w' => e = .returned (.tuple #[.agg #[.int .i64 a, .int .i64 n], .nilIface]) ∧ Below w.heap.size w w' := by
  rw [← hl.out]
  have := read_any ⟨(txtP a n).toArray⟩ et eb es m w h (txtP_size a n hr)
  rw [rdP_txt a n hr] at this
  exact this
theorem size_wrap {a n s : Int} (h : rt a n = true) (hs : Hid (sizeI a n = s)) : IntKind.i64.wrap s = s := by
  obtain ⟨-, ⟨n0, n1⟩, -⟩ := (rt_iff a n).1 h
  have h2 := pw_pos n
  have h3 := pw_le n n0
  rw [← hs.out]
  simp only [sizeI, h, if_true]
  exact wraps_i64 _ (by omega) (by omega)
theorem both_in' {pa pn qa qn b : Int} (hp : rt pa pn = true) (hq : rt qa qn = true) (h1 : hasB pa pn b = true) (h2 : hasB qa qn b = true) : inB pa pn qa qn = true ∨ (inB pa pn qa qn = false ∧ inB qa qn pa pn = true) := by
  cases h : inB pa pn qa qn with
  | true => exact Or.inl rfl
  | false => rcases both_in hp hq h1 h2 with h' | h'
             · rw [h] at h'; cases h'
             · exact Or.inr ⟨rfl, h'⟩
end Go.Proofs.YthehpnhjfnenoaaDoor
