/- Blocks as a text, in the program, as a contract. The conditions stand at each theorem. -/
import Derived.Test.YtdbobeojbdcmdaaBldA
namespace Go.Proofs.Ytdbobeojbdcmdaa
open Go.RowKit Go.LatT Go.BlockM Go.PlainAid Go.OpnT Go.ApdG Go.BytM Go.AesM Go.RowQ Go.RegH
set_option linter.unusedVariables false
set_option linter.unusedSimpArgs false
theorem byteCells_tl (n : Nat) (f : Nat → Nat) (hf : By n f) : Lib.byteCells (tl n f) = (rC n f).toList := by
  apply List.ext_getElem
  · simp [Lib.byteCells, tl_len, rC_size]
  · intro i h1 h2
    have hi : i < n := by simpa [rC_size] using h2
    have := hf i hi
    simp [Lib.byteCells, tl, rC]
    omega
theorem tl_next (k : Nat) (K : Nat → Nat → Nat) : tl (16 * (k + 1)) (flatK K) = tl (16 * k) (flatK K) ++ tl 16 (K k) := by
  apply List.ext_getElem
  · simp [tl_len]; omega
  · intro i h1 h2
    rw [tl_len] at h1
    by_cases h : i < 16 * k
    · rw [List.getElem_append_left (by rw [tl_len]; exact h)]
      simp [tl]
    · rw [List.getElem_append_right (by rw [tl_len]; omega)]
      simp only [tl, List.getElem_map, List.getElem_range, List.length_map, List.length_range]
      have := flatK_at K k (i - 16 * k) (by omega)
      rw [show 16 * k + (i - 16 * k) = i by omega] at this
      rw [this]
theorem byteCells_append (a b : List UInt8) : Lib.byteCells (a ++ b) = Lib.byteCells a ++ Lib.byteCells b := by simp [Lib.byteCells]
theorem Bd.later {w w' : World} {B b : Nat} {bs : List Value} (h : Bd w B b bs) (hb : Below w.heap.size w w') : Bd w' B b bs := by
  have aux : ∀ p, Lib.BuilderAt 75 5 B b p bs w → Lib.BuilderAt 75 5 B b p bs w' := by
    rintro p ⟨hB, v, hbk, hown, hne⟩
    exact ⟨hB, v, by rw [hb.block b (Array.getElem?_eq_some_iff.1 hbk).1]; exact hbk, owns_below hown hb, hne⟩
  exact h.imp (aux _) (aux _)
/-- What lies where while a text is built of blocks. -/
structure TB (w W : World) (l : List UInt8) : Prop where
  bel : Below w.heap.size w W
  bd : Bd W w.heap.size w.heap.size (Lib.byteCells l)
theorem TB.new (w : World) : TB w (w.alloc (.cells #[.pointer none, .slice none 0 0] 75)) [] :=
  ⟨below_box _ _, .inl ⟨Nat.le_refl _, .slice none 0 0, heap_alloc_new w _, World.ownsRow_nil _ _ _ _, by simp [Value.ownBlock]⟩⟩
set_option maxHeartbeats 4000000 in
set_option maxRecDepth 100000 in
theorem gridsText_any (a : Option Addr) (gk n cap : Nat) (K : Nat → Nat → Nat) (w : World) (hn : n ≤ 1000) (ha : n = 0 ∨ a = some ⟨gk, 0, none⟩ ∧ KR w gk n K) (hK : ∀ i, i < n → By 16 (K i)) :
    Calls Try.prog 42 #[.slice a n cap] w fun e w' => e = .returned (.string (txt (16 * n) (flatK K))) ∧ Below w.heap.size w w' := by
  have T0 := hid_in (TB.new w)
  have HA := hid_in ha
  clear ha
  go_enter Try.func42, Try.ntmps42
  go_wp2_with fail
  generalize (w.alloc (.cells #[.pointer none, .slice none 0 0] 75)) = W0 at *
  go_loopw [8] (fun v wr => ∃ k : Nat, k ≤ n ∧ v = .int .i64 (k : Int) ∧ Hid (TB w wr (tl (16 * k) (flatK K)))) (fun v _ => n - (intOf v).toNat)
  case atStart => exact ⟨0, Nat.zero_le _, rfl, T0⟩
  case round =>
    obtain ⟨k, hk, rfl, HW⟩ := hrel
    by_cases hlt : k < n
    · have HL := hid_in hlt
      rcases HA.out with h0 | ⟨rfl, hKR⟩
      · omega
      have q1 : (k : Int) < n := by omega
      have KW : KR wr gk n K := ⟨Nat.lt_of_lt_of_le hKR.lt HW.out.bel.size, fun i hi j hj => (HW.out.bel.cell (p := ⟨gk, i * 16 + j, none⟩) hKR.lt).trans (hKR.cell i hi j hj)⟩
      have HKW := hid_in (KW.row k hlt)
      have Z1 : Hid (RB (wr.alloc (.cells #[.int .u8 0, .int .u8 0, .int .u8 0, .int .u8 0, .int .u8 0, .int .u8 0, .int .u8 0, .int .u8 0, .int .u8 0, .int .u8 0, .int .u8 0, .int .u8 0, .int .u8 0, .int .u8 0, .int .u8 0, .int .u8 0] 41)) wr.heap.size 16 41 (fun _ => 0)) := by
        rw [zeroG]; exact RB.new wr 16 _ _
      have B1 := hid_in (below_box wr (.cells #[.int .u8 0, .int .u8 0, .int .u8 0, .int .u8 0, .int .u8 0, .int .u8 0, .int .u8 0, .int .u8 0, .int .u8 0, .int .u8 0, .int .u8 0, .int .u8 0, .int .u8 0, .int .u8 0, .int .u8 0, .int .u8 0] 41))
      clear KW hKR
      go_wp2_with (first | (refine wpList_load_at aggG rfl (.tmp 10) rfl ⟨gk, k * 16, none⟩ rfl (rC 16 (K k)) (rC_size _ _) HKW.out ?_) | (refine wpList_store_row rfl 41 _ _ rfl wr.heap.size _ rfl rfl 41 _ Z1.out sizeG rfl (rC_one _ _) ?_))
      have B2 := hid_in (Below_setRow (cs := rC 16 (K k)) B1.out (Nat.le_refl _))
      have R2 : Hid (RB (World.setRow _ wr.heap.size (rC 16 (K k))) wr.heap.size 16 41 (K k)) := setRow_at Z1.out
      have S2 : wr.heap.size < (World.setRow (wr.alloc (.cells #[.int .u8 0, .int .u8 0, .int .u8 0, .int .u8 0, .int .u8 0, .int .u8 0, .int .u8 0, .int .u8 0, .int .u8 0, .int .u8 0, .int .u8 0, .int .u8 0, .int .u8 0, .int .u8 0, .int .u8 0, .int .u8 0] 41)) wr.heap.size (rC 16 (K k))).heap.size := by simp [World.setRow]
      clear Z1 B1 HKW
      generalize (World.setRow _ wr.heap.size (rC 16 (K k))) = W2 at *
      have D2 := hid_in (HW.out.bd.later B2.out)
      have Z2 := hid_in (HW.out.bel.trans (B2.out.mono HW.out.bel.size))
      refine (bWrite w.heap.size w.heap.size wr.heap.size _ (K k) _ D2.out R2.out (by simp [Lib.byteCells, tl_len]; omega) (Z2.out.size)).mono ?_
      rintro e w3 ⟨rfl, hd3, hb3⟩
      have T3 : Hid (TB w w3 (tl (16 * (k + 1)) (flatK K))) := by
        refine ⟨Z2.out.trans hb3, ?_⟩
        rw [tl_next, byteCells_append, byteCells_tl 16 (K k) (hK k HL.out)]
        exact hd3
      clear hd3 hb3
      go_wp2_with fail
      exact ⟨⟨k + 1, HL.out, by simp, T3⟩, by have := HL.out; simp [intOf]; omega⟩
    · have hk' : k = n := by omega
      have HK := hid_in hk'
      have q1 : ¬ (k : Int) < n := by omega
      go_wp2_with fail
      refine (Try.Builder_String_any w.heap.size w.heap.size (tl (16 * k) (flatK K)) _ HW.out.bd HW.out.bel.size).mono ?_
      rintro e w4 ⟨rfl, hb4⟩
      have HB4 := hid_in hb4
      clear hb4
      go_wp2_with fail
      go_ret
      exact ⟨by first | rfl | (rw [HK.out]; rfl), HW.out.bel.trans HB4.out⟩
end Go.Proofs.Ytdbobeojbdcmdaa
