/- Keys: what is asked of them, and small functions of both sides, as contracts. The conditions stand at each theorem. -/
import Derived.Test.YtihacddipkpmlaaCelA
import Derived.Test.YtihacddipkpmlaaWinD
import Derived.Deep.RegionHeld3
namespace Go.Proofs.Ytihacddipkpmlaa
open Go.RowKit Go.LatT Go.BlockM Go.OpnT Go.WinMath
set_option linter.unusedVariables false
set_option linter.unusedSimpArgs false
/-- Keys, without what came. -/
structure SaV where
  spi : Int
  tun : Int
  key : ByteArray
  mac : ByteArray
  since : Int
  soft : Int
  hard : Int
  ticks : Int
  sent : Int
  top : Int
/-- Keys as a value. -/
@[reducible] def vSa (x : SaV) (a : Option Addr) (len cap : Nat) : Value :=
  .agg #[.int .i64 x.spi, .int .i64 x.tun, .string x.key, .string x.mac, .int .i64 x.since, .int .i64 x.soft, .int .i64 x.hard, .int .i64 x.ticks, .int .i64 x.sent, .int .i64 x.top, .slice a len cap]
def keysB (k m : ByteArray) : Bool := decide ((k.size : Int) = 16) && inB m.size 1 64
/-- What is asked of keys, but for the window. -/
def saB (x : SaV) : Bool := inB x.spi 1 999 && inB x.tun 0 3 && keysB x.key x.mac && inB x.since 0 1000000 && inB x.soft 1 x.hard && inB x.hard 1 1000000 && inB x.ticks 1 1000000 && inB x.sent 0 x.hard
set_option maxHeartbeats 400000 in
set_option maxRecDepth 100000 in
theorem l8Keys_any (k m : ByteArray) (w : World) (v : Bool) (hv : keysB k m = v) :
    Calls Try.prog 21 #[.string k, .string m] w fun e w' => e = .returned (.bool v) ∧ w' = w := by
  have V := hid_in hv
  clear hv
  by_cases h : (k.size : Int) = 16
  · have V2 : Hid (inB m.size 1 64 = v) := by show _ = v; rw [← V.out]; simp [keysB, h]
    go_enter Try.func21, Try.ntmps21
    go_wp2_with (go_at_call 20; refine (l1In_any _ _ _ _ _ V2.out).mono ?_; rintro e w' ⟨rfl, rfl⟩)
    go_ret
    exact ⟨rfl, rfl⟩
  · have h' : ((k.size : Int) == 16) = false := by simpa using h
    go_enter Try.func21, Try.ntmps21
    go_wp2_with fail
    go_ret
    exact ⟨ret_bool (by rw [← V.out]; simp [keysB, h]), rfl⟩
set_option maxHeartbeats 400000 in
set_option maxRecDepth 100000 in
theorem keysOk_any (k m : ByteArray) (w : World) (v : Bool) (hv : keysB k m = v) :
    Calls Try.prog 38 #[.string k, .string m] w fun e w' => e = .returned (.bool v) ∧ Below w.heap.size w w' := by
  have V := hid_in hv
  clear hv
  by_cases h : (k.size : Int) = 16
  · have V2 : Hid (inB m.size 1 64 = v) := by show _ = v; rw [← V.out]; simp [keysB, h]
    go_enter Try.func38, Try.ntmps38
    go_wp2_with fail
    refine (rhas_any 1 64 _ _ _ V2.out).mono ?_
    rintro e w1 ⟨rfl, hb1⟩
    go_wp2_with fail
    go_ret
    exact ⟨rfl, hb1⟩
  · have h' : ((k.size : Int) == 16) = false := by simpa using h
    go_enter Try.func38, Try.ntmps38
    go_wp2_with fail
    go_ret
    exact ⟨ret_bool (by rw [← V.out]; simp [keysB, h]), Below.refl _ _⟩
set_option maxHeartbeats 400000 in
set_option maxRecDepth 100000 in
theorem spiOk_any (n : Int) (w : World) (v : Bool) (hv : inB n 1 999 = v) :
    Calls Try.prog 36 #[.int .i64 n] w fun e w' => e = .returned (.bool v) ∧ Below w.heap.size w w' := by
  have V := hid_in hv
  clear hv
  go_enter Try.func36, Try.ntmps36
  go_wp2_with fail
  refine (rhas_any 1 999 _ _ _ V.out).mono ?_
  rintro e w1 ⟨rfl, hb1⟩
  go_wp2_with fail
  go_ret
  exact ⟨rfl, hb1⟩
theorem sa_no {x : SaV} {p : Prop} (h : saB x = false) : (false = true ↔ saB x = true ∧ p) := by rw [h]; simp
theorem sa_win {x : SaV} {p : Prop} {v : Bool} (h : saB x = true) (hv : v = true ↔ p) : (v = true ↔ saB x = true ∧ p) := by rw [h]; simp [hv]
set_option maxHeartbeats 2000000 in
set_option maxRecDepth 100000 in
theorem saOkS (x : SaV) (a : Option Addr) (len cap : Nat) (E : Nat → Int) (w : World) (hT : Ints w a len E) (hl : len ≤ 1048576) :
    Calls Try.prog 11 #[vSa x a len cap] w fun e w' => ∃ v, e = .returned (.bool v) ∧ (v = true ↔ saB x = true ∧ WOk x.top len E) ∧ Below w.heap.size w w' := by
  have HT := hid_in hT
  clear hT
  obtain ⟨c0, h0⟩ : ∃ c, inB x.spi 1 999 = c := ⟨_, rfl⟩
  have C0 := hid_in h0
  clear h0
  obtain ⟨c1, h1⟩ : ∃ c, inB x.tun 0 3 = c := ⟨_, rfl⟩
  have C1 := hid_in h1
  clear h1
  obtain ⟨c2, h2⟩ : ∃ c, keysB x.key x.mac = c := ⟨_, rfl⟩
  have C2 := hid_in h2
  clear h2
  obtain ⟨c3, h3⟩ : ∃ c, inB x.since 0 1000000 = c := ⟨_, rfl⟩
  have C3 := hid_in h3
  clear h3
  obtain ⟨c4, h4⟩ : ∃ c, inB x.soft 1 x.hard = c := ⟨_, rfl⟩
  have C4 := hid_in h4
  clear h4
  obtain ⟨c5, h5⟩ : ∃ c, inB x.hard 1 1000000 = c := ⟨_, rfl⟩
  have C5 := hid_in h5
  clear h5
  obtain ⟨c6, h6⟩ : ∃ c, inB x.ticks 1 1000000 = c := ⟨_, rfl⟩
  have C6 := hid_in h6
  clear h6
  obtain ⟨c7, h7⟩ : ∃ c, inB x.sent 0 x.hard = c := ⟨_, rfl⟩
  have C7 := hid_in h7
  clear h7
  go_enter Try.func11, Try.ntmps11
  go_wp2_with fail
  refine (l1In_any x.spi 1 999 _ _ C0.out).mono ?_
  rintro e w' ⟨rfl, rfl⟩
  cases c0
  · go_wp2_with fail
    go_ret
    exact ⟨_, rfl, sa_no (by simp [saB, C0.out]), by go_grown⟩
  go_wp2_with fail
  refine (l1In_any x.tun 0 3 _ _ C1.out).mono ?_
  rintro e w' ⟨rfl, rfl⟩
  cases c1
  · go_wp2_with fail
    go_ret
    exact ⟨_, rfl, sa_no (by simp [saB, C1.out]), by go_grown⟩
  go_wp2_with fail
  refine (l8Keys_any x.key x.mac _ _ C2.out).mono ?_
  rintro e w' ⟨rfl, rfl⟩
  cases c2
  · go_wp2_with fail
    go_ret
    exact ⟨_, rfl, sa_no (by simp [saB, C2.out]), by go_grown⟩
  go_wp2_with fail
  refine (l1In_any x.since 0 1000000 _ _ C3.out).mono ?_
  rintro e w' ⟨rfl, rfl⟩
  cases c3
  · go_wp2_with fail
    go_ret
    exact ⟨_, rfl, sa_no (by simp [saB, C3.out]), by go_grown⟩
  go_wp2_with fail
  refine (l1In_any x.soft 1 x.hard _ _ C4.out).mono ?_
  rintro e w' ⟨rfl, rfl⟩
  cases c4
  · go_wp2_with fail
    go_ret
    exact ⟨_, rfl, sa_no (by simp [saB, C4.out]), by go_grown⟩
  go_wp2_with fail
  refine (l1In_any x.hard 1 1000000 _ _ C5.out).mono ?_
  rintro e w' ⟨rfl, rfl⟩
  cases c5
  · go_wp2_with fail
    go_ret
    exact ⟨_, rfl, sa_no (by simp [saB, C5.out]), by go_grown⟩
  go_wp2_with fail
  refine (l1In_any x.ticks 1 1000000 _ _ C6.out).mono ?_
  rintro e w' ⟨rfl, rfl⟩
  cases c6
  · go_wp2_with fail
    go_ret
    exact ⟨_, rfl, sa_no (by simp [saB, C6.out]), by go_grown⟩
  go_wp2_with fail
  refine (l1In_any x.sent 0 x.hard _ _ C7.out).mono ?_
  rintro e w' ⟨rfl, rfl⟩
  cases c7
  · go_wp2_with fail
    go_ret
    exact ⟨_, rfl, sa_no (by simp [saB, C7.out]), by go_grown⟩
  go_wp2_with fail
  refine (windowOkS x.top a len cap E _ (HT.out.later (by go_grown)) hl).mono ?_
  rintro e w1 ⟨v, rfl, hv, hb1⟩
  go_wp2_with fail
  go_ret
  exact ⟨_, rfl, sa_win (by simp [saB, C0.out, C1.out, C2.out, C3.out, C4.out, C5.out, C6.out, C7.out]) hv, below_later (by go_grown) hb1⟩
end Go.Proofs.Ytihacddipkpmlaa
