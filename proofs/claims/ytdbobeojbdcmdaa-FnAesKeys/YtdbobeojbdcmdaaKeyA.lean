/- The keys of AES, in the program and in the specification, as contracts, and the walk of the exact law. The conditions stand at each theorem. -/
import Derived.Test.YtdbobeojbdcmdaaBldB
namespace Go.Proofs.Ytdbobeojbdcmdaa
open Go.RowKit Go.LatT Go.BlockM Go.PlainAid Go.OpnT Go.ApdG Go.BytM Go.AesM Go.RowQ Go.RegH
set_option linter.unusedVariables false
set_option linter.unusedSimpArgs false
/-- The keys as a text. -/
def keysT (s : ByteArray) : ByteArray := if s.size = 16 then txt 176 (flatK (KS (bn s))) else ⟨#[]⟩
theorem KSb (s : ByteArray) : ∀ i, i < 11 → By 16 (KS (bn s) i) := fun i _ => KS_by (fun i _ => bn_lt s i) i
set_option maxHeartbeats 1000000 in
set_option maxRecDepth 100000 in
theorem keysS (s : ByteArray) (w : World) (hz : (s.size : Int) ≤ 9223372036854775807) :
    Calls Try.prog 18 #[.string s] w fun e w' => e = .returned (.string (keysT s)) ∧ Below w.heap.size w w' := by
  by_cases h : s.size = 16
  · have h' : (s.size : Int) = 16 := by omega
    have E := hid_in (show keysT s = txt 176 (flatK (KS (bn s))) by unfold keysT; rw [if_pos h])
    go_enter Try.func18, Try.ntmps18
    go_wp2_with fail
    refine (l6Keys_any s _ h).mono ?_
    rintro e w1 ⟨v, rfl, O1, hb1⟩
    obtain ⟨g, c, rfl, hc, hg, R, _⟩ := O1.row (by omega)
    have HR := hid_in R; have HB := hid_in hb1
    clear O1 R hb1
    go_wp2_with fail
    refine (l6Text_any g c 176 _ _ HR.out (by omega) (flatK_by (KSb s))).mono ?_
    rintro e w2 ⟨rfl, hb2⟩
    go_wp2_with fail
    go_ret
    exact ⟨by rw [E.out]; rfl, below_later HB.out hb2⟩
  · have h1 : ((s.size : Int) == 16) = false := by simp; omega
    have h2 : ((s.size : Int) != 16) = true := by simp; omega
    have h3 : ¬ (s.size : Int) = 16 := by omega
    have E := hid_in (show keysT s = ⟨#[]⟩ by unfold keysT; rw [if_neg h])
    go_enter Try.func18, Try.ntmps18
    go_wp2_with fail
    go_ret
    exact ⟨by rw [E.out]; rfl, Below.refl _ _⟩
theorem fieldK (p a : Option Addr) (n c : Nat) (W : World) : (Instr.field 45 (.agg #[.pointer p, .slice a n c]) 1).run Try.prog W = .ok (.slice a n c) W := by
  first | rfl | kernel_rfl | simp [Instr.field, run_underlying Try.underlying45, go_sem, part]
theorem run_keys1 (cap : Array Value) (W : World) : (callFunc 41 cap).run Try.prog W = .ok (.enter 41 cap) W := by
  first | rfl | kernel_rfl | simp [callFunc, go_sem, Try.func41]
set_option maxHeartbeats 1000000 in
set_option maxRecDepth 100000 in
theorem keys1_ok (s : ByteArray) (b : Nat) (w : World) (h : s.size = 16) (hc : w.cell? ⟨b, 0, none⟩ = some (.string s)) :
    Calls Try.prog 41 #[.pointer (some ⟨b, 0, none⟩)] w fun e w' => e = .returned (.string (txt 176 (flatK (KS (bn s))))) ∧ Below w.heap.size w w' := by
  have hfl := fieldK
  go_enter Try.func41, Try.ntmps41
  go_wp2_with fail
  refine (cipherOf_ok s _ h).mono ?_
  rintro e w1 ⟨gt, gk, cap, rfl, hT, hK, hb1⟩
  have HK := hid_in hK; have HB := hid_in hb1
  clear hT hK hb1
  go_wp2_with fail
  refine (gridsText_any (some ⟨gk, 0, none⟩) gk 11 cap (KS (bn s)) _ (by omega) (.inr ⟨rfl, HK.out⟩) (KSb s)).mono ?_
  rintro e w2 ⟨rfl, hb2⟩
  go_wp2_with fail
  go_ret
  exact ⟨rfl, below_later HB.out hb2⟩
set_option maxHeartbeats 1000000 in
set_option maxRecDepth 100000 in
theorem keys1_no (s : ByteArray) (b : Nat) (w : World) (h : s.size ≠ 16) (hs : s.size ≤ 1048576) (hc : w.cell? ⟨b, 0, none⟩ = some (.string s)) :
    Calls Try.prog 41 #[.pointer (some ⟨b, 0, none⟩)] w fun e w' => PanP w e w' := by
  go_enter Try.func41, Try.ntmps41
  go_wp2_with fail
  refine (cipherOf_no s _ h hs).mono ?_
  rintro e w1 ⟨⟨u, pv, rfl⟩, hb1⟩
  have HB := hid_in hb1
  clear hb1
  go_wp2_with fail
  unfold bodyPost
  exact ⟨rfl, ⟨_, _, rfl⟩, HB.out⟩
set_option maxHeartbeats 1000000 in
set_option maxRecDepth 100000 in
theorem keysI (s : ByteArray) (w : World) (hs : s.size ≤ 1048576) :
    Calls Try.prog 19 #[.string s] w fun e w' => e = .returned (.string (keysT s)) ∧ Below w.heap.size w w' := by
  have hmf : ∀ (fn : Fn) (first cap : Array Value) (w : World), (Instr.makeFunc fn first cap).run Try.prog w = .ok (.func fn first cap) w := fun _ _ _ _ => rfl
  have c0 : (w.alloc (.cells #[.string s] 9)).cell? ⟨w.heap.size, 0, none⟩ = some (.string s) := by go_simp
  have l0 : w.heap.size < (w.alloc (.cells #[.string s] 9)).heap.size := by simp
  have Z0 := hid_in (below_box w (.cells #[.string s] 9))
  have C0 := hid_in (fun W (hb : Below (w.alloc (.cells #[.string s] 9)).heap.size (w.alloc (.cells #[.string s] 9)) W) => ((bcell hb).1 w.heap.size 0 l0).trans c0)
  clear c0 l0
  by_cases h : s.size = 16
  · have E := hid_in (show keysT s = txt 176 (flatK (KS (bn s))) by unfold keysT; rw [if_pos h])
    go_enter Try.func19, Try.ntmps19
    go_wp2_with fail
    refine (orEmpty_ok 41 #[.pointer (some ⟨w.heap.size, 0, none⟩)] _ _ (run_keys1 _) (fun W hb => keys1_ok s _ W h (C0.out W hb))).mono ?_
    rintro e w1 ⟨rfl, hb1⟩
    go_wp2_with fail
    go_ret
    exact ⟨by rw [E.out]; rfl, below_later Z0.out hb1⟩
  · have E := hid_in (show keysT s = ⟨#[]⟩ by unfold keysT; rw [if_neg h])
    go_enter Try.func19, Try.ntmps19
    go_wp2_with fail
    refine (orEmpty_no 41 #[.pointer (some ⟨w.heap.size, 0, none⟩)] _ (run_keys1 _) (fun W hb => keys1_no s _ W h hs (C0.out W hb))).mono ?_
    rintro e w1 ⟨rfl, hb1⟩
    go_wp2_with fail
    go_ret
    exact ⟨by rw [E.out]; rfl, below_later Z0.out hb1⟩
set_option maxHeartbeats 1000000 in
set_option maxRecDepth 100000 in
theorem walk_FnExactAesKeys (s : ByteArray) (w : World) (hz : s.size ≤ maxLen) :
    Calls Try.prog 5 #[.string s] w fun e w' => e = .returned (.bool true) ∧ Below w.heap.size w w' := by
  have hz' : (s.size : Int) ≤ 9223372036854775807 := by unfold maxLen at hz; omega
  clear hz
  by_cases hs : s.size ≤ 1048576
  · have HS := hid_in hs
    go_enter Try.func5, Try.ntmps5
    go_wp2_with fail
    refine (keysS s _ hz').mono ?_
    rintro e w1 ⟨rfl, hb1⟩
    have HB1 := hid_in hb1
    clear hb1
    go_wp2_with fail
    refine (keysI s _ HS.out).mono ?_
    rintro e w2 ⟨rfl, hb2⟩
    go_wp2_with fail
    go_ret
    exact ⟨rfl, below_later HB1.out hb2⟩
  · have hs' : (1048576 : Int) < s.size := by omega
    go_enter Try.func5, Try.ntmps5
    go_wp2_with fail
    go_ret
    exact ⟨rfl, Below.refl _ _⟩
end Go.Proofs.Ytdbobeojbdcmdaa
