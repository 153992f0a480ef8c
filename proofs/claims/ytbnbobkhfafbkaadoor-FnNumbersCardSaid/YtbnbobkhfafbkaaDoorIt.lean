/- The library's numeral is made of the figures; no program is named here. -/
import Derived.Test.YtbnbobkhfafbkaaDoorDec
import Derived.Lib.ItoaMem
namespace Go.Proofs.YtbnbobkhfafbkaaDoor.Pl
open Go Go.RowKit

theorem decDigits_eq (u : Nat) : (decL u).map (fun n => UInt8.ofNat n.toNat) = Lib.decDigits u := by
  induction u using Nat.strongRecOn with
  | ind u ih =>
    rw [Lib.decDigits]
    by_cases h : u < 10
    · rw [dif_pos h]
      by_cases h0 : u = 0
      · subst h0; rfl
      · rw [decL, if_neg h0, decR_pos h0, show u / 10 = 0 from by omega, decR_zero, show u % 10 = u from by omega]
        show [UInt8.ofNat (48 + (u : Int)).toNat] = _
        rw [show (48 + (u : Int)).toNat = 48 + u from by omega]
    · rw [dif_neg h, decL, if_neg (by omega), decR_pos (by omega)]
      have h1 := ih (u / 10) (by omega)
      rw [decL, if_neg (by omega)] at h1
      rw [List.map_append, h1]
      show _ ++ [UInt8.ofNat (48 + ((u % 10 : Nat) : Int)).toNat] = _
      rw [show (48 + ((u % 10 : Nat) : Int)).toNat = 48 + u % 10 from by omega]

theorem itoa_pos (u : Nat) : (⟨(Lib.itoa (u : Int)).toArray⟩ : ByteArray) = strOfNums (decL u) := by
  rw [Lib.itoa_nonneg, ← decDigits_eq]; rfl
end Go.Proofs.YtbnbobkhfafbkaaDoor.Pl
