/- What is proved: the contracts of FrdD, one behind the other. The conditions stand at each theorem. -/
import Derived.Test.YtefmmopkikpnhaaGreatDoorRFdC
import Derived.Test.YtefmmopkikpnhaaGreatDoorRDrx
namespace Go.Proofs.YtefmmopkikpnhaaGreatDoor
open Go.RowKit Go.LatT Go.BlockM Go.PlainAid Go.OpnT Go.ApdG Go.BytM Go.AesM Go.RowQ
set_option linter.unusedVariables false
set_option linter.unusedSimpArgs false
set_option maxHeartbeats 2000000 in
set_option maxRecDepth 100000 in
theorem drawFrameHead (a : Option Addr) (len cap : Nat) (z : List Int) (w : World) (h : RowC w a len cap z) (hl : len ≤ 1048576) :
    Calls Tryz.prog 20 #[.slice a len cap] w fun e w' => ∃ s : ByteArray, e = .returned (.string s) ∧ s.size ≤ 2000 ∧ Below w.heap.size w w' := by
  have HR := hid_in h
  clear h
  go_enter Tryz.func20, Tryz.ntmps20
  go_wp2_with fail
  refine (l1OpenC a len cap z _ HR.out hl).mono ?_
  rintro e w1 ⟨sl, rfl, h1, hb1⟩
  have H1 := hid_in h1; have HB := hid_in hb1
  clear h1 hb1
  go_wp2_with fail
  refine (l12Frame_any _ sl _ _ H1.out (by omega) (by omega)).mono ?_
  rintro e w2 ⟨k, m, b, t, x, y, rfl, hk, hm, hx1, hx2, hy1, hy2, hbz, htz, ⟨q2, a2, b2, h2⟩, m2⟩
  have H2 := hid_in h2; have M2 := hid_in m2
  have hsz := frmT_size (key := k) (mac := m) (n := x) (m := y) hbz (show t.size ≤ 51 by omega)
  clear h2 m2 H1 hx1 hx2 hy1 hy2 htz hbz
  generalize frmT k m x y b t = s at *
  go_wp2_with fail
  refine (l12Cut_any _ sl q2 s _ H2.out (by omega) (by omega) (by omega)).mono ?_
  rintro e w3 ⟨u, rfl, hu, m3⟩
  have M3 := hid_in (M2.out.trans m3); clear m3
  go_wp2_with fail
  go_ret
  exact ⟨u, rfl, hu, below_mv HB.out (Nat.le_refl _) M3.out⟩
set_option maxHeartbeats 2000000 in
set_option maxRecDepth 100000 in
theorem walk_FnFrameHead (a : Option Addr) (len cap : Nat) (z : List Int) (a' : Option Addr) (len' cap' : Nat) (z' : List Int) (w : World) (h : RowC w a len cap z) (h' : RowC w a' len' cap' z') (hE : ErrT w) (hK : GK w) :
    Calls Tryz.prog 5 #[.slice a len cap, .slice a' len' cap'] w fun e w' => e = .returned (.bool true) ∧ Below w.heap.size w w' := by
  have hm : (len : Int) ≤ 9223372036854775807 := by
    rcases h with ⟨rfl, _⟩ | ⟨_, _, _, h1, h2, _⟩
    · omega
    · unfold maxLen at h2; omega
  have hm' : (len' : Int) ≤ 9223372036854775807 := by
    rcases h' with ⟨rfl, _⟩ | ⟨_, _, _, h1, h2, _⟩
    · omega
    · unfold maxLen at h2; omega
  have HR := hid_in h
  have HR' := hid_in h'
  have HK := hid_in hK
  have HE := hid_in hE
  clear h h' hK hE
  by_cases hl : len ≤ 1048576
  · by_cases hl' : len' ≤ 1048576
    · go_enter Tryz.func5, Tryz.ntmps5
      go_wp2_with fail
      refine (drawFrameHead a len cap z _ HR.out hl).mono ?_
      rintro e w1 ⟨s, rfl, hs, hb1⟩
      have D1 := hid_in hb1
      clear hb1
      have FI := hid_in (fun W (v : ErrT W) => frameHeadI s W (by omega) v)
      have FS := hid_in (fun W => frameHeadS s W (by omega))
      have HG := hid_in (fun k m => show fgB k m s = true → fhB s = true from fun e => by unfold fgB at e; simp only [Bool.and_eq_true] at e; exact e.1.1.1)
      have IG := hid_in (fun k m W (hk : k.size ≤ 1048576) (hm : m.size ≤ 1048576) (y : GK W) (v : ErrT W) => frameGetI k m s W y v hk hm (by omega))
      generalize fhN s 0 4 = N1 at *
      generalize fhN s 4 8 = N2 at *
      go_wp2_with fail
      refine (FI.out _ (HE.out.later D1.out)).mono ?_
      rintro e w2 ⟨rfl, hb2⟩
      have D2 := hid_in (below_later D1.out hb2)
      clear hb2 D1
      go_wp2_with fail
      refine (FS.out _).mono ?_
      rintro e w3 ⟨rfl, rfl⟩
      go_wp2_with fail
      refine (drawFrameGet a' len' cap' z' _ (HR'.out.later D2.out) hl').mono ?_
      rintro e w4 ⟨k, m, s2, rfl, hk, hm5, hs2, hb4⟩
      have D4 := hid_in (below_later D2.out hb4)
      clear hb4 D2
      have I := hid_in (fun W (y : GK W) (v : ErrT W) => IG.out k m W (by omega) (by omega) y v)
      have G := hid_in (HG.out k m)
      generalize fgT k m s = R at *
      generalize fgB k m s = V at *
      generalize fhB s = O at *
      clear HG IG
      go_wp2_with fail
      refine (I.out _ (HK.out.below D4.out HK.out.lt) (HE.out.later D4.out)).mono ?_
      rintro e w5 ⟨rfl, hb5⟩
      have D5 := hid_in (below_later D4.out hb5)
      clear hb5 D4
      cases O
      · have hV : V = false := by
          have g := G.out
          cases V
          · rfl
          · exact absurd (g rfl) (by simp)
        subst hV
        go_wp2_with fail
        go_ret
        exact ⟨rfl, D5.out⟩
      · go_wp2_with fail
        go_ret
        exact ⟨rfl, D5.out⟩
    · have hl2 : (1048576 : Int) < len' := by omega
      go_enter Tryz.func5, Tryz.ntmps5
      go_wp2_with fail
      go_ret
      exact ⟨rfl, Below.refl _ _⟩
  · have hl' : (1048576 : Int) < len := by omega
    go_enter Tryz.func5, Tryz.ntmps5
    go_wp2_with fail
    go_ret
    exact ⟨rfl, Below.refl _ _⟩
end Go.Proofs.YtefmmopkikpnhaaGreatDoor

