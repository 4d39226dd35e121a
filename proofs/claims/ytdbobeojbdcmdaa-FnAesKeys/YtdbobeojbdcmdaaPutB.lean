/- A block turned, in the program and in the specification, and the walk of the exact law. The conditions stand at each theorem. -/
import Derived.Test.YtdbobeojbdcmdaaPutA
namespace Go.Proofs.Ytdbobeojbdcmdaa
open Go.RowKit Go.LatT Go.BlockM Go.PlainAid Go.OpnT Go.ApdG Go.BytM Go.AesM Go.RowQ Go.RegH
set_option linter.unusedVariables false
set_option linter.unusedSimpArgs false
/-- A block turned, as a text. -/
def putT (s t : ByteArray) : ByteArray := if s.size = 16 ∧ t.size = 16 then txt 16 (enc (KS (bn s)) (bn t) 10) else ⟨#[]⟩
theorem run_put1 (cap : Array Value) (W : World) : (callFunc 33 cap).run Try.prog W = .ok (.enter 33 cap) W := by
  first | rfl | kernel_rfl | simp [callFunc, go_sem, Try.func33]
set_option maxHeartbeats 1000000 in
set_option maxRecDepth 100000 in
theorem putS (s t : ByteArray) (w : World) (hz : (s.size : Int) ≤ 9223372036854775807) (hz2 : (t.size : Int) ≤ 9223372036854775807) :
    Calls Try.prog 14 #[.string s, .string t] w fun e w' => e = .returned (.string (putT s t)) ∧ Below w.heap.size w w' := by
  by_cases h : s.size = 16
  · have h' : (s.size : Int) = 16 := by omega
    by_cases h2 : t.size = 16
    · have h2' : (t.size : Int) = 16 := by omega
      have E := hid_in (show putT s t = txt 16 (enc (KS (bn s)) (bn t) 10) by unfold putT; rw [if_pos ⟨h, h2⟩])
      go_enter Try.func14, Try.ntmps14
      go_wp2_with fail
      refine (l6Keys_any s _ h).mono ?_
      rintro e w1 ⟨v, rfl, O1, hb1⟩
      obtain ⟨g, c, rfl, hc, hg, R, _⟩ := O1.row (by omega)
      have HR := hid_in R; have HB := hid_in hb1
      clear O1 R hb1
      go_wp2_with fail
      refine (l6Put_any g c (KS (bn s)) t _ HR.out h2 (fun i _ => KS_by (fun i _ => bn_lt s i) i)).mono ?_
      rintro e w2 ⟨rfl, hb2⟩
      go_wp2_with fail
      go_ret
      exact ⟨by rw [E.out]; rfl, below_later HB.out hb2⟩
    · have h1 : ((t.size : Int) == 16) = false := by simp; omega
      have h3 : ((t.size : Int) != 16) = true := by simp; omega
      have h4 : ¬ (t.size : Int) = 16 := by omega
      have E := hid_in (show putT s t = ⟨#[]⟩ by unfold putT; rw [if_neg (fun x => h2 x.2)])
      go_enter Try.func14, Try.ntmps14
      go_wp2_with fail
      go_ret
      exact ⟨by rw [E.out]; rfl, Below.refl _ _⟩
  · have h1 : ((s.size : Int) == 16) = false := by simp; omega
    have h3 : ((s.size : Int) != 16) = true := by simp; omega
    have h4 : ¬ (s.size : Int) = 16 := by omega
    have E := hid_in (show putT s t = ⟨#[]⟩ by unfold putT; rw [if_neg (fun x => h x.1)])
    go_enter Try.func14, Try.ntmps14
    go_wp2_with fail
    go_ret
    exact ⟨by rw [E.out]; rfl, Below.refl _ _⟩
set_option maxHeartbeats 1000000 in
set_option maxRecDepth 100000 in
theorem putI (s t : ByteArray) (w : World) (hs : s.size ≤ 1048576) (ht : t.size ≤ 1048576) :
    Calls Try.prog 15 #[.string s, .string t] w fun e w' => e = .returned (.string (putT s t)) ∧ Below w.heap.size w w' := by
  have hmf : ∀ (fn : Fn) (first cap : Array Value) (w : World), (Instr.makeFunc fn first cap).run Try.prog w = .ok (.func fn first cap) w := fun _ _ _ _ => rfl
  have c0 : ((w.alloc (.cells #[.string s] 9)).alloc (.cells #[.string t] 9)).cell? ⟨w.heap.size, 0, none⟩ = some (.string s) := by go_simp
  have c1 : ((w.alloc (.cells #[.string s] 9)).alloc (.cells #[.string t] 9)).cell? ⟨w.heap.size + 1, 0, none⟩ = some (.string t) := by go_simp
  have l0 : ((w.alloc (.cells #[.string s] 9)).alloc (.cells #[.string t] 9)).heap.size = w.heap.size + 1 + 1 := by simp
  have Z0 : Hid (Below w.heap.size w ((w.alloc (.cells #[.string s] 9)).alloc (.cells #[.string t] 9))) := by show Below _ _ _; go_grown
  have C0 := hid_in (fun W (hb : Below ((w.alloc (.cells #[.string s] 9)).alloc (.cells #[.string t] 9)).heap.size ((w.alloc (.cells #[.string s] 9)).alloc (.cells #[.string t] 9)) W) => ((bcell hb).1 w.heap.size 0 (by rw [l0]; omega)).trans c0)
  have C1 := hid_in (fun W (hb : Below ((w.alloc (.cells #[.string s] 9)).alloc (.cells #[.string t] 9)).heap.size ((w.alloc (.cells #[.string s] 9)).alloc (.cells #[.string t] 9)) W) => ((bcell hb).1 (w.heap.size + 1) 0 (by rw [l0]; omega)).trans c1)
  clear c0 c1 l0
  by_cases h : s.size = 16
  · by_cases h2 : t.size = 16
    · have E := hid_in (show putT s t = txt 16 (enc (KS (bn s)) (bn t) 10) by unfold putT; rw [if_pos ⟨h, h2⟩])
      go_enter Try.func15, Try.ntmps15
      go_wp2_with fail
      refine (orEmpty_ok 33 #[.pointer (some ⟨w.heap.size, 0, none⟩), .pointer (some ⟨w.heap.size + 1, 0, none⟩)] _ _ (run_put1 _) (fun W hb => put1_ok s t _ _ W h h2 (C0.out W hb) (C1.out W hb))).mono ?_
      rintro e w1 ⟨rfl, hb1⟩
      go_wp2_with fail
      go_ret
      exact ⟨by rw [E.out]; rfl, below_later Z0.out hb1⟩
    · have E := hid_in (show putT s t = ⟨#[]⟩ by unfold putT; rw [if_neg (fun x => h2 x.2)])
      go_enter Try.func15, Try.ntmps15
      go_wp2_with fail
      refine (orEmpty_no 33 #[.pointer (some ⟨w.heap.size, 0, none⟩), .pointer (some ⟨w.heap.size + 1, 0, none⟩)] _ (run_put1 _) (fun W hb => put1_no2 s t _ _ W h h2 ht (C0.out W hb) (C1.out W hb))).mono ?_
      rintro e w1 ⟨rfl, hb1⟩
      go_wp2_with fail
      go_ret
      exact ⟨by rw [E.out]; rfl, below_later Z0.out hb1⟩
  · have E := hid_in (show putT s t = ⟨#[]⟩ by unfold putT; rw [if_neg (fun x => h x.1)])
    go_enter Try.func15, Try.ntmps15
    go_wp2_with fail
    refine (orEmpty_no 33 #[.pointer (some ⟨w.heap.size, 0, none⟩), .pointer (some ⟨w.heap.size + 1, 0, none⟩)] _ (run_put1 _) (fun W hb => put1_no1 s t _ _ W h hs (C0.out W hb) (C1.out W hb))).mono ?_
    rintro e w1 ⟨rfl, hb1⟩
    go_wp2_with fail
    go_ret
    exact ⟨by rw [E.out]; rfl, below_later Z0.out hb1⟩
set_option maxHeartbeats 1000000 in
set_option maxRecDepth 100000 in
theorem walk_FnExactAesPut (s t : ByteArray) (w : World) (hz : s.size ≤ maxLen) (hy : t.size ≤ maxLen) :
    Calls Try.prog 3 #[.string s, .string t] w fun e w' => e = .returned (.bool true) ∧ Below w.heap.size w w' := by
  have hz' : (s.size : Int) ≤ 9223372036854775807 := by unfold maxLen at hz; omega
  have hy' : (t.size : Int) ≤ 9223372036854775807 := by unfold maxLen at hy; omega
  clear hz hy
  by_cases hs : s.size ≤ 1048576
  · have HS := hid_in hs
    by_cases ht : t.size ≤ 1048576
    · have HT := hid_in ht
      go_enter Try.func3, Try.ntmps3
      go_wp2_with fail
      refine (putS s t _ hz' hy').mono ?_
      rintro e w1 ⟨rfl, hb1⟩
      have HB1 := hid_in hb1
      clear hb1
      go_wp2_with fail
      refine (putI s t _ HS.out HT.out).mono ?_
      rintro e w2 ⟨rfl, hb2⟩
      go_wp2_with fail
      go_ret
      exact ⟨rfl, below_later HB1.out hb2⟩
    · have ht' : (1048576 : Int) < t.size := by omega
      go_enter Try.func3, Try.ntmps3
      go_wp2_with fail
      go_ret
      exact ⟨rfl, Below.refl _ _⟩
  · have hs' : (1048576 : Int) < s.size := by omega
    go_enter Try.func3, Try.ntmps3
    go_wp2_with fail
    go_ret
    exact ⟨rfl, Below.refl _ _⟩
end Go.Proofs.Ytdbobeojbdcmdaa
