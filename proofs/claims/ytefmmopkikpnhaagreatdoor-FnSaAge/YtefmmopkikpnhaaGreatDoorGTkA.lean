/- What is proved: the contracts of TakA, one behind the other. The conditions stand at each theorem. -/
import Derived.Test.YtefmmopkikpnhaaGreatDoorGSnD
import Derived.Test.YtefmmopkikpnhaaGreatDoorGFrE
namespace Go.Proofs.YtefmmopkikpnhaaGreatDoor
open Go.RowKit Go.LatT Go.BlockM Go.PlainAid Go.OpnT Go.ApdG Go.BytM Go.AesM Go.RowQ Go.WinMath
set_option linter.unusedVariables false
set_option linter.unusedSimpArgs false
/-- Keys with a top. -/
@[reducible] def topS (x : SaV) (T : Int) : SaV := ⟨x.spi, x.tun, x.key, x.mac, x.since, x.soft, x.hard, x.ticks, x.sent, T⟩
theorem SaBox.set9 {w : World} {g : Nat} {x : SaV} {v : Value} (T : Int) (u : Value) (h : SaBox w g x v) : SaBox ((w.setCell ⟨g, 9, none⟩ (.int .i64 T)).setCell ⟨g, 10, none⟩ u) g (topS x T) u := by
  obtain ⟨l0, p0, p1, p2, p3, p4, p5, p6, p7, p8, p9, p10, pf⟩ := h
  exact ⟨by simpa using l0, by go_simp, by go_simp, by go_simp, by go_simp, by go_simp, by go_simp, by go_simp, by go_simp, by go_simp, by go_simp, by go_simp, fun o => by go_simp⟩
end Go.Proofs.YtefmmopkikpnhaaGreatDoor

