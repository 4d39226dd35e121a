/- Bytes in figures, in the program and in the specification, as contracts, and the walk of the exact law. The conditions stand at each theorem. -/
import Derived.Test.YtgamakiejaeeeaaDoorProg
import Derived.Test.YtgamakiejaeeeaaDoorLat
import Derived.Test.YtgamakiejaeeeaaDoorMath
import Derived.Test.YtgamakiejaeeeaaDoorOwn
import Derived.WalkKit
import Derived.WalkSpells
import Derived.WalkLawsBesides
import Derived.BigQuiet
import Derived.Handy
import Derived.PlainAid
import Derived.Laws.IdiomStrings
import Derived.Laws.BytesArg
import Derived.Deep.RegionHeld3
namespace Go.Proofs.YtgamakiejaeeeaaDoor
open Go.RowKit Go.LatT Go.BlockM Go.PlainAid Go.OpnT
set_option linter.unusedVariables false
set_option linter.unusedSimpArgs false
/-- A figure of sixteen. -/
def figB (d : Int) : UInt8 := UInt8.ofNat (if d < 10 then 48 + d.toNat else 87 + d.toNat)
/-- The first k bytes, in figures. -/
def hexT (s : ByteArray) : Nat → List UInt8
  | 0 => []
  | k + 1 => hexT s k ++ [figB (bt s k / 16), figB (bt s k % 16)]
theorem hexT_len (s : ByteArray) : ∀ k, (hexT s k).length = 2 * k
  | 0 => rfl
  | k + 1 => by rw [hexT, List.length_append, hexT_len s k]; simp; omega
/-- Bytes as cells. -/
def u8s (l : List UInt8) : List Value := l.map fun b => .int .u8 (b.toNat : Int)
theorem u8s_append (a b : List UInt8) : u8s (a ++ b) = u8s a ++ u8s b := by simp [u8s]
theorem fig_of (d : Int) (h0 : 0 ≤ d) (h1 : d < 16) : bt ⟨#[48, 49, 50, 51, 52, 53, 54, 55, 56, 57, 97, 98, 99, 100, 101, 102]⟩ d.toNat = ((figB d).toNat : Int) := by
  have : d = 0 ∨ d = 1 ∨ d = 2 ∨ d = 3 ∨ d = 4 ∨ d = 5 ∨ d = 6 ∨ d = 7 ∨ d = 8 ∨ d = 9 ∨ d = 10 ∨ d = 11 ∨ d = 12 ∨ d = 13 ∨ d = 14 ∨ d = 15 := by omega
  rcases this with rfl | rfl | rfl | rfl | rfl | rfl | rfl | rfl | rfl | rfl | rfl | rfl | rfl | rfl | rfl | rfl <;> decide
/-- A row of bytes that the call owns, as a text. -/
theorem owns_text {w : World} {base n : Nat} {v : Value} {l : List UInt8} (h : w.ownsRow base 5 1 v n (u8s l)) (hn : n = l.length) : (convert 26 9 v).run Tryd.prog w = .ok (.string ⟨l.toArray⟩) w := by
  subst hn
  have hcells := fun g hg => World.ownsRow.cells h (g := g) hg
  obtain ⟨h1, h2⟩ := h
  rcases h2 with ⟨rfl, h0⟩ | ⟨g, cap, cur, rfl, e2, e3, e4, e5, e6, e7⟩
  · obtain rfl : l = [] := List.length_eq_zero_iff.1 h0
    exact run_convert_bytes_nil (P := Tryd.prog) (w := w) _ 5 Tryd.underlying26 Tryd.underlying5 0 0 9 Tryd.underlying9
  · refine run_convert_bytes_back (P := Tryd.prog) w 26 9 5 ⟨g, 0, none⟩ cap l Tryd.underlying26 Tryd.underlying5 Tryd.underlying9 fun j hj => ?_
    exact hcells g rfl j _ (by simp [u8s, hj])
theorem infoByte : (Tryd.prog.info? 5).map (fun i => (i.zero, i.size, i.bytes)) = some (some (.int .u8 0), 1, 1) := by kernel_rfl
set_option maxHeartbeats 2000000 in
set_option maxRecDepth 100000 in
theorem hexS_any (s : ByteArray) (w : World) (hs : s.size ≤ 1048576) :
    Calls Tryd.prog 14 #[.string s] w fun e w' => e = .returned (.string ⟨(hexT s s.size).toArray⟩) ∧ Below w.heap.size w w' := by
  have hb := get_bt s
  obtain ⟨i0, hi, hzz⟩ := Option.map_eq_some_iff.1 infoByte
  simp only [Prod.mk.injEq] at hzz
  have HI := hid_in hi; have HZ := hid_in hzz
  clear hi hzz
  go_enter Tryd.func14, Tryd.ntmps14
  go_wp2_with fail
  go_loopw [4, 5] (fun o v wr => ∃ k : Nat, k ≤ s.size ∧ v = .int .i64 (k : Int) ∧ Hid (Below w.heap.size w wr ∧ wr.ownsRow w.heap.size 5 1 o (2 * k) (u8s (hexT s k)))) (fun _ v _ => s.size - (intOf v).toNat)
  case atStart =>
    refine ⟨0, Nat.zero_le _, rfl, ?_⟩
    show _ ∧ _
    exact ⟨below_box _ _, World.ownsRow_lit w #[] 0 (Nat.le_refl _) (Nat.zero_le _) rfl⟩
  case round =>
    obtain ⟨k, hk, rfl, HW⟩ := hrel
    obtain ⟨hB, hO⟩ := HW.out
    have HB := hid_in hB; have HO := hid_in hO
    have hz := hB.size
    clear hB hO HW
    by_cases hlt : k < s.size
    · have HL := hid_in hlt
      have g0 := bt_nonneg s k
      have g1 := bt_le s k
      have e1 : IntKind.u8.wrap ((bt s k).tdiv 16) = bt s k / 16 := by rw [Int.tdiv_eq_ediv_of_nonneg g0, IntKind.wrap_u8]; omega
      have e2 : (bt s k).tmod 16 = bt s k % 16 := Int.tmod_eq_emod_of_nonneg g0
      have e3 : IntKind.u8.wrap (bt s k % 16) = bt s k % 16 := by rw [IntKind.wrap_u8]; omega
      have q0 : (0 : Int) ≤ bt s k / 16 := by omega
      have q1 : bt s k / 16 < 16 := by omega
      have q2 : (0 : Int) ≤ bt s k % 16 := by omega
      have q3 : bt s k % 16 < 16 := by omega
      have q4 : (k : Int) < s.size := by omega
      have hb2 := get_bt ⟨#[48, 49, 50, 51, 52, 53, 54, 55, 56, 57, 97, 98, 99, 100, 101, 102]⟩
      go_wp2_with fail
      have h1c : ∀ (a b : Int), ∀ u ∈ [Value.int .u8 a, Value.int .u8 b], u.oneCell' = true := by intro a b u hu; simp at hu; rcases hu with rfl | rfl <;> rfl
      go_region_held3 (fun w' => True) (go_keep) (first | (refine wp_append_own _ (.tmp 13) (.tmp 26) 26 rfl w.heap.size 5 i0 (.int .u8 0) 1 1 Tryd.underlying26 HI.out HZ.out.1 HZ.out.2.1 HZ.out.2.2 rfl (by decide) _ (2 * k) (u8s (hexT s k)) rfl (by exact ((owns_drew HO.out).alloc _)) ⟨wr.heap.size, 0, none⟩ 2 2 [.int .u8 _, .int .u8 _] rfl rfl (cells_new _ _ _) (h1c _ _) (by unfold maxLen; omega) (by omega) (by simp; omega) ?_; intro v' w3 hown3 hg3 hn3; have H3 := hid_in hown3; have G3 := hid_in hg3; clear hown3 hg3 hn3))
      all_goals
        go_wp2_with fail
        have hz3 : Below w.heap.size w w3 := ((HB.out.drew).alloc HB.out.size _).grown G3.out (by simp; omega) (fun g hg => (owns_own HO.out g hg).1)
        refine ⟨⟨k + 1, HL.out, by simp, ?_⟩, by have := HL.out; simp [intOf]; omega⟩
        show _ ∧ _
        refine ⟨hz3, ?_⟩
        have := H3.out
        rw [fig_of _ q0 q1, fig_of _ q2 q3] at this
        rw [show 2 * (k + 1) = 2 * k + 2 by omega, hexT, u8s_append]
        exact this
    · have hk' : k = s.size := by omega
      have HK := hid_in hk'
      have hcv := owns_text HO.out (hexT_len s k).symm
      have hd : ¬ (k : Int) < (s.size : Int) := by omega
      go_wp2_with fail
      go_ret
      exact ⟨rfl, HB.out⟩
end Go.Proofs.YtgamakiejaeeeaaDoor
