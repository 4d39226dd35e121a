/- What is thrown is caught: a turning answers its text, or the empty one. The conditions stand at each theorem. -/
import Derived.Test.YtdbobeojbdcmdaaCipA
namespace Go.Proofs.Ytdbobeojbdcmdaa
open Go.RowKit Go.LatT Go.BlockM Go.PlainAid Go.OpnT Go.ApdG Go.BytM Go.AesM Go.RowQ Go.RegH
set_option linter.unusedVariables false
set_option linter.unusedSimpArgs false
/-- What throwing answers. -/
def PanP (w : World) (e : Ending) (w' : World) : Prop := (∃ u pv, e = .panicked [{ v := .iface u pv, recovered := false }]) ∧ Below w.heap.size w w'
set_option maxHeartbeats 1000000 in
set_option maxRecDepth 100000 in
theorem cipherOf_no (s : ByteArray) (w : World) (h : s.size ≠ 16) (hs : s.size ≤ 1048576) :
    Calls Try.prog 34 #[.string s] w fun e w' => PanP w e w' := by
  go_enter Try.func34, Try.ntmps34
  go_wp2_with fail
  refine (newTable_any _).mono ?_
  rintro e w1 ⟨gt, rfl, hgt, T1, hb1⟩
  have HB1 := hid_in hb1
  have Z0 := hid_in (below_box w (.cells #[.pointer none, .slice none 0 0] 45))
  clear T1 hb1
  go_wp2_with fail
  refine (gridOf_no s _ h hs).mono ?_
  rintro e w2 ⟨⟨u, pv, rfl⟩, hb2⟩
  have HB2 := hid_in hb2
  clear hb2
  go_wp2_with fail
  unfold bodyPost
  exact ⟨rfl, ⟨_, _, rfl⟩, below_later (below_later Z0.out HB1.out) HB2.out⟩
theorem run_34 (cap : Array Value) (W : World) : (callFunc 33 cap).run Try.prog W = .ok (.enter 33 cap) W := by
  first | rfl | kernel_rfl | simp [callFunc, go_sem, Try.func33]
set_option maxHeartbeats 1000000 in
set_option maxRecDepth 100000 in
theorem orEmpty_ok (F : Nat) (cap : Array Value) (x : ByteArray) (w : World) (hcf : ∀ W : World, (callFunc F cap).run Try.prog W = .ok (.enter F cap) W) (hF : ∀ W, Below w.heap.size w W → Calls Try.prog F cap W fun e w' => e = .returned (.string x) ∧ Below W.heap.size W w') :
    Calls Try.prog 32 #[.func (.func F) #[] cap] w fun e w' => e = .returned (.string x) ∧ Below w.heap.size w w' := by
  have hmf : ∀ (fn : Fn) (first cap : Array Value) (w : World), (Instr.makeFunc fn first cap).run Try.prog w = .ok (.func fn first cap) w := fun _ _ _ _ => rfl
  have HF := hid_in (hF _ (below_box w (.cells #[.string ⟨#[]⟩] 9)))
  have c0 := (World.cell? (w.alloc (.cells #[.string ⟨#[]⟩] 9)) ⟨w.heap.size, 0, none⟩)
  have Z0 := hid_in (below_box w (.cells #[.string ⟨#[]⟩] 9))
  have R0 : Hid ((w.alloc (.cells #[.string ⟨#[]⟩] 9)).heap[w.heap.size]? = some (.cells #[.string ⟨#[]⟩] 9 (0, 0))) := heap_alloc_new w _
  have S0 : w.heap.size < (w.alloc (.cells #[.string ⟨#[]⟩] 9)).heap.size := by simp
  clear hF c0
  go_enter_defers Try.func32, Try.ntmps32
  go_wp2_with fail
  refine HF.out.mono ?_
  rintro e w1 ⟨rfl, hb1⟩
  have HB1 := hid_in hb1
  have k0 := cell_of_row w1 w.heap.size 0 _ _ _ ((hb1.block _ S0).trans R0.out)
  have k1 := frozen_of_row w1 w.heap.size 0 _ _ ((hb1.block _ S0).trans R0.out)
  simp at k0
  clear hb1
  go_wp2_with fail
  refine leaves_cons (f := 59) (args := #[.pointer (some ⟨w.heap.size, 0, none⟩)]) (by simp) (by simp [go_sem]) ?_
  refine (catch_idle ⟨w.heap.size, 0, none⟩ _).mono ?_
  rintro e u' w'' ⟨rfl, rfl, rfl⟩
  simp [Leaves, settle, results, Try.results32, go_sem, k0, k1]
  exact (Z0.out.trans (HB1.out.mono (by simp))).setCell (Nat.le_refl _) _
set_option maxHeartbeats 1000000 in
set_option maxRecDepth 100000 in
theorem orEmpty_no (F : Nat) (cap : Array Value) (w : World) (hcf : ∀ W : World, (callFunc F cap).run Try.prog W = .ok (.enter F cap) W) (hF : ∀ W, Below w.heap.size w W → Calls Try.prog F cap W fun e w' => PanP W e w') :
    Calls Try.prog 32 #[.func (.func F) #[] cap] w fun e w' => e = .returned (.string ⟨#[]⟩) ∧ Below w.heap.size w w' := by
  have hmf : ∀ (fn : Fn) (first cap : Array Value) (w : World), (Instr.makeFunc fn first cap).run Try.prog w = .ok (.func fn first cap) w := fun _ _ _ _ => rfl
  have HF := hid_in (hF _ (below_box w (.cells #[.string ⟨#[]⟩] 9)))
  have Z0 := hid_in (below_box w (.cells #[.string ⟨#[]⟩] 9))
  have R0 : Hid ((w.alloc (.cells #[.string ⟨#[]⟩] 9)).heap[w.heap.size]? = some (.cells #[.string ⟨#[]⟩] 9 (0, 0))) := heap_alloc_new w _
  have S0 : w.heap.size < (w.alloc (.cells #[.string ⟨#[]⟩] 9)).heap.size := by simp
  clear hF
  go_enter_defers Try.func32, Try.ntmps32
  go_wp2_with fail
  refine HF.out.mono ?_
  rintro e w1 ⟨⟨u, pv, rfl⟩, hb1⟩
  have HB1 := hid_in hb1
  have k0 := cell_of_row w1 w.heap.size 0 _ _ _ ((hb1.block _ S0).trans R0.out)
  have k1 := frozen_of_row w1 w.heap.size 0 _ _ ((hb1.block _ S0).trans R0.out)
  simp at k0
  clear hb1
  go_wp2_with fail
  refine leaves_cons (f := 59) (args := #[.pointer (some ⟨w.heap.size, 0, none⟩)]) (by simp) (by simp [go_sem]) ?_
  refine (catch_panicking ⟨w.heap.size, 0, none⟩ ⟨#[]⟩ u pv [] _ k0 k1).mono ?_
  rintro e u' w'' ⟨rfl, rfl, rfl⟩
  simp [Leaves, settle, results, Try.results32, go_sem, k0, k1]
  exact (Z0.out.trans (HB1.out.mono (by simp))).setCell (Nat.le_refl _) _
end Go.Proofs.Ytdbobeojbdcmdaa
