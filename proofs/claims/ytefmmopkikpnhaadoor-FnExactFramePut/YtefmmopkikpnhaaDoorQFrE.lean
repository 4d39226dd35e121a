/- What is proved: the contracts of TxtN, FrmE, one behind the other. The conditions stand at each theorem. -/
import Derived.Test.YtefmmopkikpnhaaDoorQBas
import Derived.Test.YtefmmopkikpnhaaDoorQFrD
import Derived.Test.YtefmmopkikpnhaaDoorQFrB
namespace Go.Proofs.YtefmmopkikpnhaaDoor
open Go.BytM
end Go.Proofs.YtefmmopkikpnhaaDoor

namespace Go.Proofs.YtefmmopkikpnhaaDoor
open Go.RowKit Go.LatT Go.BlockM Go.PlainAid Go.OpnT Go.ApdG Go.BytM Go.AesM Go.RowQ
set_option linter.unusedVariables false
set_option linter.unusedSimpArgs false
set_option maxHeartbeats 1000000 in
set_option maxRecDepth 100000 in
theorem walk_FnExactFramePut (k m : ByteArray) (a b : Int) (g t : ByteArray) (w : World) (z1 : k.size ≤ maxLen) (z2 : m.size ≤ maxLen) (z3 : g.size ≤ maxLen) (z4 : t.size ≤ maxLen) (hK : GK w) :
    Calls Tryd.prog 3 #[.string k, .string m, .int .i64 a, .int .i64 b, .string g, .string t] w fun e w' => e = .returned (.bool true) ∧ Below w.heap.size w w' := by
  have y1 : (k.size : Int) ≤ 9223372036854775807 := by unfold maxLen at z1; omega
  have y2 : (m.size : Int) ≤ 9223372036854775807 := by unfold maxLen at z2; omega
  have y3 : (g.size : Int) ≤ 9223372036854775807 := by unfold maxLen at z3; omega
  have y4 : (t.size : Int) ≤ 9223372036854775807 := by unfold maxLen at z4; omega
  clear z1 z2 z3 z4
  have HK := hid_in hK
  have S := hid_in (fun W => framePutS k m a b g t W y1 y2 y3 y4)
  have I := hid_in (fun W (x : GK W) => framePutI k m a b g t W x y1 y2 y3 y4)
  generalize fpT k m a b g t = R at *
  clear hK
  by_cases h1 : (1048576 : Int) < k.size
  · go_enter Tryd.func3, Tryd.ntmps3
    go_wp2_with fail
    go_ret
    exact ⟨rfl, Below.refl _ _⟩
  · by_cases h2 : (1048576 : Int) < m.size
    · go_enter Tryd.func3, Tryd.ntmps3
      go_wp2_with fail
      go_ret
      exact ⟨rfl, Below.refl _ _⟩
    · by_cases h3 : (1048576 : Int) < g.size
      · go_enter Tryd.func3, Tryd.ntmps3
        go_wp2_with fail
        go_ret
        exact ⟨rfl, Below.refl _ _⟩
      · by_cases h4 : (1048576 : Int) < t.size
        · go_enter Tryd.func3, Tryd.ntmps3
          go_wp2_with fail
          go_ret
          exact ⟨rfl, Below.refl _ _⟩
        · go_enter Tryd.func3, Tryd.ntmps3
          go_wp2_with fail
          refine (S.out _).mono ?_
          rintro e w1 ⟨rfl, hb1⟩
          go_wp2_with fail
          refine (I.out _ (HK.out.below hb1 HK.out.lt)).mono ?_
          rintro e w2 ⟨rfl, hb2⟩
          go_wp2_with fail
          go_ret
          exact ⟨rfl, below_later hb1 hb2⟩
end Go.Proofs.YtefmmopkikpnhaaDoor

