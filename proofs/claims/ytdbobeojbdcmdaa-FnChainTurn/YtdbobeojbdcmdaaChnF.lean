/- Blocks chained, in the program, and the walk of the exact law. The conditions stand at each theorem. -/
import Derived.Test.YtdbobeojbdcmdaaChnC
import Derived.Test.YtdbobeojbdcmdaaChnE
namespace Go.Proofs.Ytdbobeojbdcmdaa
open Go.RowKit Go.LatT Go.BlockM Go.PlainAid Go.OpnT Go.ApdG Go.BytM Go.AesM Go.RowQ Go.RegH
set_option linter.unusedVariables false
set_option linter.unusedSimpArgs false
theorem run_chp1 (cap : Array Value) (W : World) : (callFunc 45 cap).run Try.prog W = .ok (.enter 45 cap) W := by
  first | rfl | kernel_rfl | simp [callFunc, go_sem, Try.func45]
set_option maxHeartbeats 2000000 in
set_option maxRecDepth 100000 in
theorem chpI (s t u : ByteArray) (w : World) (hs : s.size ≤ 1048576) (ht : t.size ≤ 1048576) (hu : u.size ≤ 1048576) :
    Calls Try.prog 21 #[.string s, .string t, .string u] w fun e w' => e = .returned (.string (cpT s t u)) ∧ Below w.heap.size w w' := by
  have hmf : ∀ (fn : Fn) (first cap : Array Value) (w : World), (Instr.makeFunc fn first cap).run Try.prog w = .ok (.func fn first cap) w := fun _ _ _ _ => rfl
  have c0 : (((w.alloc (.cells #[.string s] 9)).alloc (.cells #[.string t] 9)).alloc (.cells #[.string u] 9)).cell? ⟨w.heap.size, 0, none⟩ = some (.string s) := by go_simp
  have c1 : (((w.alloc (.cells #[.string s] 9)).alloc (.cells #[.string t] 9)).alloc (.cells #[.string u] 9)).cell? ⟨w.heap.size + 1, 0, none⟩ = some (.string t) := by go_simp
  have c2 : (((w.alloc (.cells #[.string s] 9)).alloc (.cells #[.string t] 9)).alloc (.cells #[.string u] 9)).cell? ⟨w.heap.size + 1 + 1, 0, none⟩ = some (.string u) := by go_simp
  have l0 : (((w.alloc (.cells #[.string s] 9)).alloc (.cells #[.string t] 9)).alloc (.cells #[.string u] 9)).heap.size = w.heap.size + 1 + 1 + 1 := by simp
  have Z0 : Hid (Below w.heap.size w (((w.alloc (.cells #[.string s] 9)).alloc (.cells #[.string t] 9)).alloc (.cells #[.string u] 9))) := by show Below _ _ _; go_grown
  have C0 := hid_in (fun W (hb : Below (((w.alloc (.cells #[.string s] 9)).alloc (.cells #[.string t] 9)).alloc (.cells #[.string u] 9)).heap.size (((w.alloc (.cells #[.string s] 9)).alloc (.cells #[.string t] 9)).alloc (.cells #[.string u] 9)) W) => ((bcell hb).1 w.heap.size 0 (by rw [l0]; omega)).trans c0)
  have C1 := hid_in (fun W (hb : Below (((w.alloc (.cells #[.string s] 9)).alloc (.cells #[.string t] 9)).alloc (.cells #[.string u] 9)).heap.size (((w.alloc (.cells #[.string s] 9)).alloc (.cells #[.string t] 9)).alloc (.cells #[.string u] 9)) W) => ((bcell hb).1 (w.heap.size + 1) 0 (by rw [l0]; omega)).trans c1)
  have C2 := hid_in (fun W (hb : Below (((w.alloc (.cells #[.string s] 9)).alloc (.cells #[.string t] 9)).alloc (.cells #[.string u] 9)).heap.size (((w.alloc (.cells #[.string s] 9)).alloc (.cells #[.string t] 9)).alloc (.cells #[.string u] 9)) W) => ((bcell hb).1 (w.heap.size + 1 + 1) 0 (by rw [l0]; omega)).trans c2)
  clear c0 c1 c2 l0
  by_cases h : Chn s t u
  · have E := hid_in (show cpT s t u = txt (16 * (u.size / 16)) (flatK fun i => cp (KS (bn s)) (bn t) (blk u) (i + 1)) by unfold cpT; rw [if_pos h])
    go_enter Try.func21, Try.ntmps21
    go_wp2_with fail
    refine (orEmpty_ok 45 #[.pointer (some ⟨w.heap.size, 0, none⟩), .pointer (some ⟨w.heap.size + 1, 0, none⟩), .pointer (some ⟨w.heap.size + 1 + 1, 0, none⟩)] _ _ (run_chp1 _) (fun W hb => chp_ok s t u _ _ _ W (u.size / 16) h.1 h.2.1 (by have := h.2.2.1; omega) (by have := h.2.2.2; omega) (C0.out W hb) (C1.out W hb) (C2.out W hb))).mono ?_
    rintro e w1 ⟨rfl, hb1⟩
    go_wp2_with fail
    go_ret
    exact ⟨by rw [E.out]; rfl, below_later Z0.out hb1⟩
  · have E := hid_in (show cpT s t u = ⟨#[]⟩ by unfold cpT; rw [if_neg h])
    by_cases h1 : s.size = 16
    · by_cases h2 : t.size = 16
      · have h3 : ¬ (u.size % 16 = 0 ∧ u.size ≤ 320) := fun x => h ⟨h1, h2, x.1, x.2⟩
        go_enter Try.func21, Try.ntmps21
        go_wp2_with fail
        refine (orEmpty_no 45 #[.pointer (some ⟨w.heap.size, 0, none⟩), .pointer (some ⟨w.heap.size + 1, 0, none⟩), .pointer (some ⟨w.heap.size + 1 + 1, 0, none⟩)] _ (run_chp1 _) (fun W hb => chp_no3 s t u _ _ _ W h1 h2 h3 hu (C0.out W hb) (C1.out W hb) (C2.out W hb))).mono ?_
        rintro e w1 ⟨rfl, hb1⟩
        go_wp2_with fail
        go_ret
        exact ⟨by rw [E.out]; rfl, below_later Z0.out hb1⟩
      · clear h
        go_enter Try.func21, Try.ntmps21
        go_wp2_with fail
        refine (orEmpty_no 45 #[.pointer (some ⟨w.heap.size, 0, none⟩), .pointer (some ⟨w.heap.size + 1, 0, none⟩), .pointer (some ⟨w.heap.size + 1 + 1, 0, none⟩)] _ (run_chp1 _) (fun W hb => chp_no2 s t u _ _ _ W h1 h2 ht (C0.out W hb) (C1.out W hb) (C2.out W hb))).mono ?_
        rintro e w1 ⟨rfl, hb1⟩
        go_wp2_with fail
        go_ret
        exact ⟨by rw [E.out]; rfl, below_later Z0.out hb1⟩
    · clear h
      go_enter Try.func21, Try.ntmps21
      go_wp2_with fail
      refine (orEmpty_no 45 #[.pointer (some ⟨w.heap.size, 0, none⟩), .pointer (some ⟨w.heap.size + 1, 0, none⟩), .pointer (some ⟨w.heap.size + 1 + 1, 0, none⟩)] _ (run_chp1 _) (fun W hb => chp_no1 s t u _ _ _ W h1 hs (C0.out W hb) (C1.out W hb) (C2.out W hb))).mono ?_
      rintro e w1 ⟨rfl, hb1⟩
      go_wp2_with fail
      go_ret
      exact ⟨by rw [E.out]; rfl, below_later Z0.out hb1⟩
set_option maxHeartbeats 2000000 in
set_option maxRecDepth 100000 in
theorem walk_FnExactChainPut (s t u : ByteArray) (w : World) (hx : s.size ≤ maxLen) (hy : t.size ≤ maxLen) (hz : u.size ≤ maxLen) :
    Calls Try.prog 6 #[.string s, .string t, .string u] w fun e w' => e = .returned (.bool true) ∧ Below w.heap.size w w' := by
  have hx' : (s.size : Int) ≤ 9223372036854775807 := by unfold maxLen at hx; omega
  have hy' : (t.size : Int) ≤ 9223372036854775807 := by unfold maxLen at hy; omega
  have hz' : (u.size : Int) ≤ 9223372036854775807 := by unfold maxLen at hz; omega
  clear hx hy hz
  by_cases hs : s.size ≤ 1048576
  · have HS' := hid_in hs
    by_cases ht : t.size ≤ 1048576
    · have HT' := hid_in ht
      by_cases hu : u.size ≤ 1048576
      · have HU' := hid_in hu
        go_enter Try.func6, Try.ntmps6
        go_wp2_with fail
        refine (chainPutS s t u _ hx' hy' hz').mono ?_
        rintro e w1 ⟨rfl, hb1⟩
        have HB1 := hid_in hb1
        clear hb1
        go_wp2_with fail
        refine (chpI s t u _ HS'.out HT'.out HU'.out).mono ?_
        rintro e w2 ⟨rfl, hb2⟩
        go_wp2_with fail
        go_ret
        exact ⟨rfl, below_later HB1.out hb2⟩
      · have hu' : (1048576 : Int) < u.size := by omega
        go_enter Try.func6, Try.ntmps6
        go_wp2_with fail
        go_ret
        exact ⟨rfl, Below.refl _ _⟩
    · have ht' : (1048576 : Int) < t.size := by omega
      go_enter Try.func6, Try.ntmps6
      go_wp2_with fail
      go_ret
      exact ⟨rfl, Below.refl _ _⟩
  · have hs' : (1048576 : Int) < s.size := by omega
    go_enter Try.func6, Try.ntmps6
    go_wp2_with fail
    go_ret
    exact ⟨rfl, Below.refl _ _⟩
end Go.Proofs.Ytdbobeojbdcmdaa
