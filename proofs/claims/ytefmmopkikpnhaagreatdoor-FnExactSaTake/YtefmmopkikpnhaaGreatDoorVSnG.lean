/- What is proved: the contracts of SndG, one behind the other. The conditions stand at each theorem. -/
import Derived.Test.YtefmmopkikpnhaaGreatDoorVSnF
import Derived.Test.YtefmmopkikpnhaaGreatDoorVTai
namespace Go.Proofs.YtefmmopkikpnhaaGreatDoor
open Go.RowKit Go.LatT Go.BlockM Go.PlainAid Go.OpnT Go.ApdG Go.BytM Go.AesM Go.RowQ Go.WinMath
set_option linter.unusedVariables false
set_option linter.unusedSimpArgs false
theorem SaBox.other8 {w : World} {g k o : Nat} {x : SaV} {v u : Value} (hk : g ≠ k) (h : SaBox w g x v) : SaBox (w.setCell ⟨k, o, none⟩ u) g x v := by
  obtain ⟨l0, p0, p1, p2, p3, p4, p5, p6, p7, p8, p9, p10, pf⟩ := h
  exact ⟨by simpa using l0, by go_simp, by go_simp, by go_simp, by go_simp, by go_simp, by go_simp, by go_simp, by go_simp, by go_simp, by go_simp, by go_simp, fun o => by go_simp⟩
end Go.Proofs.YtefmmopkikpnhaaGreatDoor

