/-
  The document's answer, chapter 1 (herepathref1): Byte, below, Decimal, AddrText, PrefixText: what each returns.
-/
import Derived.Test.YtkcacdlgmapjjaaNumMath
import Derived.Lib.SlBytesRow
namespace Go.Proofs.Ytkcacdlgmapjjaa
open Go.RowKit
theorem decDigits_len (u : Nat) (h : u < 18446744073709551616) : (Lib.decDigits u).length ≤ 20 := by rw [Lib.decDigits_length]; exact Lib.nDigits_le20 u h
theorem decDigits_more (u : Nat) (h : ¬ u < 10) : Lib.decDigits u = Lib.decDigits (u / 10) ++ [UInt8.ofNat (48 + u % 10)] := by rw [Lib.decDigits, dif_neg h]

end Go.Proofs.Ytkcacdlgmapjjaa
