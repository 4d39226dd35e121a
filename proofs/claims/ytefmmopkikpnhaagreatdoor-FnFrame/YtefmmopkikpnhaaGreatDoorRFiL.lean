/- What is proved: the contracts of FilL, one behind the other. The conditions stand at each theorem. -/
import Derived.Test.YtefmmopkikpnhaaGreatDoorRFrB
import Derived.Test.YtefmmopkikpnhaaGreatDoorRDrx
namespace Go.Proofs.YtefmmopkikpnhaaGreatDoor
open Go.RowKit Go.LatT Go.BlockM Go.PlainAid Go.OpnT Go.RegE Go.ApdG Go.BytM
set_option linter.unusedVariables false
set_option linter.unusedSimpArgs false
/-- What was filled comes back. -/
theorem unf_fill (s x : ByteArray) (h : x = ⟨(fillL (bl s)).toArray⟩) : unfB x = true ∧ unfT x = s := by
  have hbl : bl x = fillL (bl s) := by rw [h, bl_of]
  have hsz : x.size = s.size + (16 - s.size % 16) := by rw [← bl_len x, hbl, fillL_len, bl_len]
  have hlast : lastN x = 16 - s.size % 16 := by
    have h1 := fillL_last (bl s)
    rw [← hbl, bl_len, List.getLast?_eq_getElem?, bl_len] at h1
    obtain ⟨h2, h3⟩ := List.getElem?_eq_some_iff.1 h1
    have h4 : x.size - 1 < x.size := by omega
    have h5 : bt x (x.size - 1) = ((16 - s.size % 16 : Nat) : Int) := by
      unfold bt
      rw [dif_pos h4]
      have : (x[x.size - 1]'h4) = UInt8.ofNat (16 - s.size % 16) := h3
      rw [this]
      simp
      omega
    unfold lastN
    rw [h5]; rfl
  have hex : x.extract 0 (x.size - lastN x) = s := by
    apply bl_inj
    rw [take_extract, hlast, hsz, hbl, show s.size + (16 - s.size % 16) - (16 - s.size % 16) = s.size by omega, fillL, List.take_append_of_le_length (by rw [bl_len]; omega), List.take_of_length_le (by rw [bl_len]; omega)]
  have hB : unfB x = true := by
    unfold unfB
    have a1 : x.size ≠ 0 := by omega
    have a2 : 1 ≤ lastN x := by omega
    have a3 : lastN x ≤ x.size := by omega
    rw [hex, ← h, decide_eq_true a1, decide_eq_true a2, decide_eq_true a3, decide_eq_true rfl]
    rfl
  exact ⟨hB, by unfold unfT; rw [hB, hex]; rfl⟩
end Go.Proofs.YtefmmopkikpnhaaGreatDoor

