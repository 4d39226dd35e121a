/- What is proved: the contracts of SndH, one behind the other. The conditions stand at each theorem. -/
import Derived.Test.YtefmmopkikpnhaaGreatDoorGSnD
namespace Go.Proofs.YtefmmopkikpnhaaGreatDoor
open Go.RowKit Go.LatT Go.BlockM Go.PlainAid Go.OpnT Go.ApdG Go.BytM Go.AesM Go.RowQ Go.WinMath
set_option linter.unusedVariables false
set_option linter.unusedSimpArgs false
theorem l9Send_any (x : SaV) (v : Value) (L : List Int) (now : Int) (t : ByteArray) (w : World) (hL : IL w v L) (hl : L.length ≤ 100) (hx : saB x = true) (ht : (t.size : Int) ≤ 9223372036854775807) :
    Calls Tryz.prog 65 #[vSv x v, .int .i64 now, .string t] w (sndP x L now t w) := by
  by_cases h1 : 51 < t.size
  · exact l9Send_no x v L now t w hL hl hx ht (by unfold sdK; rw [if_pos h1]; decide)
  · by_cases h2 : ageV x now = 3
    · exact l9Send_no x v L now t w hL hl hx ht (by unfold sdK; rw [if_neg h1, if_pos h2]; decide)
    · exact l9Send_yes x v L now t w hL hl hx h1 h2
end Go.Proofs.YtefmmopkikpnhaaGreatDoor

