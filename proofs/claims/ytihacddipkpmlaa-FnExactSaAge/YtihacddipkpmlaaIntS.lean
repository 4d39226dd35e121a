/- Lists of numbers: what measuring one, copying one, and holding two against each other answer. The conditions stand at each theorem. -/
import Derived.Test.YtihacddipkpmlaaProg
import Derived.Test.YtihacddipkpmlaaLat
import Derived.Test.YtihacddipkpmlaaMath
import Derived.Test.YtihacddipkpmlaaOpn
import Derived.WalkKit
import Derived.WalkSpells
import Derived.WalkLawsBesides
import Derived.BigQuiet
import Derived.Deep.OwnRows
import Derived.Deep.LoopGhost
import Derived.Handy
namespace Go.Proofs.Ytihacddipkpmlaa
open Go.RowKit Go.LatT Go.BlockM Go.OpnT
set_option linter.unusedVariables false
set_option linter.unusedSimpArgs false
/-- A slice of numbers: empty, or a row of cells. -/
def Ints (w : World) (a : Option Addr) (len : Nat) (E : Nat → Int) : Prop :=
  len = 0 ∨ ∃ bb off, a = some ⟨bb, off, none⟩ ∧ bb < w.heap.size ∧ ∀ i, i < len → w.cell? ⟨bb, off + i, none⟩ = some (.int .i64 (E i))
theorem Ints.later {w w' : World} {a : Option Addr} {len : Nat} {E : Nat → Int} (h : Ints w a len E) (hb : Below w.heap.size w w') : Ints w' a len E := by
  rcases h with h | ⟨bb, off, e, hlt, hc⟩
  · exact .inl h
  · exact .inr ⟨bb, off, e, Nat.lt_of_lt_of_le hlt hb.size, fun i hi => by rw [(bcell hb).1 _ _ hlt]; exact hc i hi⟩
/-- A block of numbers. -/
def IRow (w : World) (b n : Nat) (E : Nat → Int) : Prop := w.rowIs b 3 n (fun i => .int .i64 (E i))
theorem IRow.ints {w : World} {b n : Nat} {E : Nat → Int} (h : IRow w b n E) : Ints w (some ⟨b, 0, none⟩) n E :=
  .inr ⟨b, 0, rfl, h.lt, fun i hi => by rw [Nat.zero_add]; exact h.cell hi⟩
theorem IRow.later {w w' : World} {b n : Nat} {E : Nat → Int} (h : IRow w b n E) (hb : Below w.heap.size w w') : IRow w' b n E := h.of_block (hb.block _ h.lt)
def zInt (n : Nat) : Array Value := madeCells #[.int .i64 0] n
theorem infoInt : (Try.prog.info? 3).map (fun i => (i.zero, i.size, i.bytes)) = some (some (.int .i64 0), 1, 8) := by kernel_rfl
theorem makeInts (n : Nat) (hn : n ≤ 1048576) (w : World) :
    (Instr.makeSlice 29 (.int .i64 (n : Int)) (.int .i64 (n : Int))).run Try.prog w = .ok (.slice (some ⟨w.heap.size, 0, none⟩) n n) (w.alloc (.cells (zInt n) 3)) := by
  obtain ⟨i, hi, hzz⟩ := Option.map_eq_some_iff.1 infoInt
  simp only [Prod.mk.injEq] at hzz
  obtain ⟨hz, hs, hb⟩ := hzz
  have hr := run_make (P := Try.prog) w 29 3 i _ Try.underlying29 hi hz .i64 .i64 n n (by omega) (Int.le_refl _) (by rw [hb]; omega) (by omega)
  rw [hs, Int.toNat_natCast, Nat.mul_one] at hr
  exact hr
theorem madeInt (w : World) (n : Nat) : (w.alloc (.cells (zInt n) 3)).rowIs w.heap.size 3 n (fun _ => .int .i64 0) := by
  refine ⟨_, Go.Deep.blk_alloc_new _ _, size_madeCells _ _, fun i hi => ?_⟩
  simp only [zInt, madeCells]
  simp [hi, Nat.mod_one]
set_option maxHeartbeats 1000000 in
set_option maxRecDepth 100000 in
theorem toIntS_any (a : Option Addr) (len cap : Nat) (E : Nat → Int) (w : World) (hT : Ints w a len E) (hl : len ≤ 1048576) :
    Calls Try.prog 33 #[.slice a len cap] w fun e w' => e = .returned (.slice (some ⟨w.heap.size, 0, none⟩) len len) ∧ IRow w' w.heap.size len E ∧ Below w.heap.size w w' := by
  have hmk := makeInts len hl
  have HT := hid_in hT
  clear hT
  go_enter Try.func33, Try.ntmps33
  go_wp2_with fail
  clear hmk
  go_loopw [4] (fun v wr => ∃ k : Nat, k ≤ len ∧ v = .int .i64 (k : Int) ∧ Hid (Below w.heap.size w wr ∧ wr.rowIs w.heap.size 3 len (fun q => if q < k then .int .i64 (E q) else .int .i64 0))) (fun v _ => len - (intOf v).toNat)
  case atStart => exact ⟨0, Nat.zero_le _, rfl, by show _ ∧ _; exact ⟨below_box _ _, (madeInt w len).congr (fun i _ => by simp)⟩⟩
  case round =>
    obtain ⟨k, hk, rfl, HW⟩ := hrel
    obtain ⟨hbW, hrow⟩ := HW.out
    by_cases hlt' : k < len
    · have hd : (k : Int) < (len : Int) := by omega
      rcases HT.out with h0 | ⟨bb, off, rfl, hlt, hc⟩
      · omega
      have g0 := ((bcell hbW).1 bb (off + k) hlt).trans (hc k hlt')
      have hm := hrow.lt
      have s0 := hrow.cell hlt'
      have f0 := hrow.frozen k
      have H1 := hid_in hbW; have H2 := hid_in hrow
      clear hbW hrow hc
      go_wp2_with fail
      refine ⟨⟨k + 1, by omega, by simp, ?_⟩, by simp [intOf]; omega⟩
      show _ ∧ _
      refine ⟨H1.out.setCell (Nat.le_refl _) _, (H2.out.set _ _).congr ?_⟩
      intro q hq
      by_cases e1 : q = k
      · subst e1; simp
      · by_cases e2 : q < k
        · simp [e1, e2, show q < k + 1 by omega]
        · simp [e1, e2, show ¬ q < k + 1 by omega]
    · have hd : decide ((k : Int) < (len : Int)) = false := by simp; omega
      have e : k = len := by omega
      have HE := hid_in e
      have H1 := hid_in hbW; have H2 := hid_in hrow
      clear hbW hrow e
      go_wp2_with fail
      go_ret
      refine ⟨rfl, H2.out.congr fun i hi => ?_, H1.out⟩
      rw [if_pos (by rw [HE.out]; exact hi)]
set_option maxHeartbeats 1000000 in
set_option maxRecDepth 100000 in
theorem eqIntS_self (a1 a2 : Option Addr) (len c1 c2 : Nat) (E : Nat → Int) (w : World) (hT : Ints w a1 len E) (hU : Ints w a2 len E) (hl : len ≤ 1048576) :
    Calls Try.prog 40 #[.slice a1 len c1, .slice a2 len c2] w fun e w' => e = .returned (.bool true) ∧ Below w.heap.size w w' := by
  have HT := hid_in hT; have HU := hid_in hU
  clear hT hU
  go_enter Try.func40, Try.ntmps40
  go_wp2_with fail
  go_loopw [5] (fun v wr => ∃ k : Nat, k ≤ len ∧ v = .int .i64 (k : Int) ∧ Hid (Below w.heap.size w wr)) (fun v _ => len - (intOf v).toNat)
  case atStart => exact ⟨0, Nat.zero_le _, rfl, by show Below _ _ _; exact Below.refl _ _⟩
  case round =>
    obtain ⟨k, hk, rfl, HW⟩ := hrel
    by_cases hlt' : k < len
    · have hd : (k : Int) < (len : Int) := by omega
      rcases HT.out with h0 | ⟨b1, o1, rfl, h1, k1⟩
      · omega
      rcases HU.out with h0 | ⟨b2, o2, rfl, h2, k2⟩
      · omega
      have g0 := ((bcell HW.out).1 b1 (o1 + k) h1).trans (k1 k hlt')
      have q0 := ((bcell HW.out).1 b2 (o2 + k) h2).trans (k2 k hlt')
      clear k1 k2
      go_wp2_with fail
      go_region
      go_wp2_with fail
      exact ⟨⟨k + 1, by omega, by simp, by show Below _ _ _; exact HW.out.drew⟩, by simp [intOf]; omega⟩
    · have hd : decide ((k : Int) < (len : Int)) = false := by simp; omega
      go_wp2_with fail
      go_ret
      exact ⟨rfl, HW.out⟩
set_option maxHeartbeats 400000 in
set_option maxRecDepth 100000 in
theorem szIntS_any (a : Option Addr) (len cap : Nat) (w : World) (n : Int) (h0 : 0 ≤ n) (h1 : n ≤ 1048576) (hl : (len : Int) ≤ 9223372036854775807) (v : Int) (hv : (if n - len < 0 then -1 else n - len) = v) :
    Calls Try.prog 32 #[.slice a len cap, .int .i64 n] w fun e w' => e = .returned (.int .i64 v) ∧ w' = w := by
  have hv1 := hid_in hv
  clear hv
  go_enter Try.func32, Try.ntmps32
  go_wp2
  all_goals
    go_ret
    exact ⟨ret_int (by rw [← hv1.out]; first | rw [if_pos (by omega)] | rw [if_neg (by omega)]), rfl⟩
end Go.Proofs.Ytihacddipkpmlaa
