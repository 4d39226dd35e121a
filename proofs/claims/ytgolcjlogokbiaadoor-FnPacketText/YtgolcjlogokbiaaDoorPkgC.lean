/- Packets read from bytes, in the program and in the specification, as contracts, and the walk of the exact law. The conditions stand at each theorem. -/
import Derived.Test.YtgolcjlogokbiaaDoorPkgB
namespace Go.Proofs.YtgolcjlogokbiaaDoor
open Go.RowKit Go.LatT Go.BlockM Go.PlainAid Go.OpnT Go.RegE Go.ApdG Go.BytM
set_option linter.unusedVariables false
set_option linter.unusedSimpArgs false
/-- The packet that bytes are, or nothing. -/
def pgV (x : ByteArray) : Value := if goodB x then .agg #[.int .i64 (numX x 0 4), .int .i64 (numX x 4 8), .int .i64 (numX x 8 10), .string (x.extract 11 x.size)] else .agg #[.int .i64 0, .int .i64 0, .int .i64 0, .string ⟨#[]⟩]
set_option maxHeartbeats 2000000 in
set_option maxRecDepth 100000 in
theorem packetGetI (x : ByteArray) (w : World) (hx : x.size ≤ 1048576) (hE : ErrT w) :
    Calls Tryd.prog 16 #[.string x] w fun e w' => e = .returned (.tuple #[pgV x, .bool (goodB x)]) ∧ Below w.heap.size w w' := by
  have HE := hid_in (hE.later (below_box w (.cells #[.int .i64 0, .int .i64 0, .int .i64 0, .string ⟨#[]⟩] 30)))
  have R0 := hid_in (PBf.new w 0 0 0 ⟨#[]⟩ 30)
  have Z0 := hid_in (below_box w (.cells #[.int .i64 0, .int .i64 0, .int .i64 0, .string ⟨#[]⟩] 30))
  have HX := hid_in hx
  clear hE hx
  go_enter Tryd.func16, Tryd.ntmps16
  go_wp2_with fail
  generalize (w.alloc (.cells #[.int .i64 0, .int .i64 0, .int .i64 0, .string ⟨#[]⟩] 30)) = W0 at *
  refine (packetOf_any x W0 HX.out).mono ?_
  rintro e w1 ⟨f, t, p, s, v, b, rfl, hv, hp, hb1⟩
  have E1 := hid_in (HE.out.later hb1)
  have R1 := hid_in (R0.out.later hb1)
  have Z1 := hid_in (below_later Z0.out hb1)
  obtain ⟨hbg, hfs⟩ := pk_of hp
  have HV := hid_in hv
  clear hb1 hv hp R0 Z0 HE
  cases b
  · have hg : goodB x = true := by cases h : goodB x <;> simp [h] at hbg ⊢
    obtain ⟨rfl, rfl, rfl, rfl⟩ := hfs rfl
    have hv' : v = .nilIface := HV.out
    subst hv'
    have EV : Hid (pgV x = .agg #[.int .i64 (numX x 0 4), .int .i64 (numX x 4 8), .int .i64 (numX x 8 10), .string (x.extract 11 x.size)]) := by show _ = _; rw [pgV, hg]; rfl
    have GH := hid_in hg
    clear hbg hg HV
    generalize numX x 0 4 = f at *
    generalize numX x 4 8 = t at *
    generalize numX x 8 10 = p at *
    generalize x.extract 11 x.size = s at *
    go_wp2_with fail
    have P2 := hid_in (PBf.new w1 f t p s 30)
    have E2 := hid_in (E1.out.later (below_box w1 (.cells #[.int .i64 f, .int .i64 t, .int .i64 p, .string s] 30)))
    have R2 := hid_in (R1.out.later (below_box w1 (.cells #[.int .i64 f, .int .i64 t, .int .i64 p, .string s] 30)))
    have Z2 := hid_in (below_later Z1.out (below_box w1 (.cells #[.int .i64 f, .int .i64 t, .int .i64 p, .string s] 30)))
    refine (couldRead_nil _).mono ?_
    rintro e w2 ⟨rfl, hb2⟩
    replace P2 := hid_in (P2.out.later hb2); replace R2 := hid_in (R2.out.later hb2); replace Z2 := hid_in (below_later Z2.out hb2)
    clear hb2
    have hne : w1.heap.size ≠ w.heap.size := Nat.ne_of_gt R1.out.lt
    obtain ⟨_, k0, k1, k2, k3, kf⟩ := P2.out
    obtain ⟨hlt, i0, i1, i2, i3, if_⟩ := R2.out
    clear R1 Z1 E1 E2
    go_wp2_with fail
    refine bodyPost_ret (v := .tuple #[.agg #[.int .i64 f, .int .i64 t, .int .i64 p, .string s], .bool true]) (by simp [results, Tryd.results16, go_sem, i0, i1, i2, i3, hlt]) rfl ⟨by rw [EV.out, GH.out], ?_⟩
    exact ((((Z2.out.setCell (Nat.le_refl _) _).setCell (Nat.le_refl _) _).setCell (Nat.le_refl _) _).setCell (Nat.le_refl _) _)
  · have hg : goodB x = false := by cases h : goodB x <;> simp [h] at hbg ⊢
    have hv' : ∃ y : ByteArray, v = .iface 84 (.agg #[.string y]) := HV.out
    obtain ⟨y, rfl⟩ := hv'
    have EV : Hid (pgV x = .agg #[.int .i64 0, .int .i64 0, .int .i64 0, .string ⟨#[]⟩]) := by show _ = _; rw [pgV, hg]; rfl
    have GH := hid_in hg
    clear hbg hg HV hfs
    go_wp2_with fail
    have E2 := hid_in (E1.out.later (below_box w1 (.cells #[.int .i64 f, .int .i64 t, .int .i64 p, .string s] 30)))
    have R2 := hid_in (R1.out.later (below_box w1 (.cells #[.int .i64 f, .int .i64 t, .int .i64 p, .string s] 30)))
    have Z2 := hid_in (below_later Z1.out (below_box w1 (.cells #[.int .i64 f, .int .i64 t, .int .i64 p, .string s] 30)))
    refine (couldRead_not _ _ E2.out).mono ?_
    rintro e w2 ⟨rfl, hb2⟩
    replace R2 := hid_in (R2.out.later hb2); replace Z2 := hid_in (below_later Z2.out hb2)
    clear hb2
    obtain ⟨hlt, i0, i1, i2, i3, if_⟩ := R2.out
    clear R1 Z1 E1 E2
    go_wp2_with fail
    refine bodyPost_ret (v := .tuple #[.agg #[.int .i64 0, .int .i64 0, .int .i64 0, .string ⟨#[]⟩], .bool false]) (by simp [results, Tryd.results16, go_sem, i0, i1, i2, i3, hlt]) rfl ⟨by rw [EV.out, GH.out], ?_⟩
    exact ((((Z2.out.setCell (Nat.le_refl _) _).setCell (Nat.le_refl _) _).setCell (Nat.le_refl _) _).setCell (Nat.le_refl _) _)
set_option maxHeartbeats 1000000 in
set_option maxRecDepth 100000 in
theorem l8Num_any (s : ByteArray) (w : World) (hs : s.size ≤ 4) :
    Calls Tryd.prog 38 #[.string s] w fun e w' => e = .returned (.int .i64 ((num (bl s) : Nat) : Int)) ∧ w' = w := by
  have hbt := get_bt s
  go_enter Tryd.func38, Tryd.ntmps38
  go_wp2_with fail
  go_loop [3, 4] (fun a i => ∃ k : Nat, k ≤ s.size ∧ i = .int .i64 (k : Int) ∧ a = .int .i64 ((num ((bl s).take k) : Nat) : Int)) (fun _ i => s.size - (intOf i).toNat)
  case atStart => exact ⟨0, Nat.zero_le _, rfl, rfl⟩
  case round =>
    obtain ⟨k, hk, rfl, rfl⟩ := hrel
    have hlen : ((bl s).take k).length = k := by rw [List.length_take, bl_len]; omega
    have hlt4 := num_lt k _ hlen
    have hle4 : 256 ^ k ≤ 256 ^ 4 := Nat.pow_le_pow_right (by omega) (by omega)
    by_cases hlt : k < s.size
    · have g0 := bt_nonneg s k
      have g1 := bt_le s k
      have HN := hid_in (num_take s k hlt)
      have HL := hid_in hlt
      generalize num ((bl s).take k) = a at *
      have ha : (a : Int) < 4294967296 := by omega
      clear hlen hlt4 hle4
      go_wp2_with fail
      refine ⟨⟨k + 1, HL.out, by simp, ?_⟩, by have := HL.out; simp [intOf]; omega⟩
      rw [HN.out]
    · have hk' : k = s.size := by omega
      go_wp2_with fail
      go_ret
      exact ⟨by rw [List.take_of_length_le (by rw [bl_len]; omega)]; rfl, rfl⟩
end Go.Proofs.YtgolcjlogokbiaaDoor
