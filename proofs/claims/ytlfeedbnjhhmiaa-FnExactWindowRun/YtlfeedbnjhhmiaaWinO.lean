/- What is proved: the walk of the exact law of WindowRun. The conditions stand at the theorem. -/
import Derived.Test.YtlfeedbnjhhmiaaWinN
namespace Go.Proofs.Ytlfeedbnjhhmiaa
open Go.RowKit Go.LatT Go.BlockM Go.OpnT Go.WinMath
set_option linter.unusedVariables false
set_option linter.unusedSimpArgs false
/-- What lies where, while answers that are lists of numbers are held against each other. -/
structure RSt (w : World) (sv gv xv : Value) (L' GL XL : List Int) (b0 b1 b2 : Nat) (x : World) : Prop where
  z : Below w.heap.size w x
  os : x.ownsRow b0 3 1 sv L'.length (i64s L')
  og : x.ownsRow b1 3 1 gv GL.length (i64s GL)
  ox : x.ownsRow b2 3 1 xv XL.length (i64s XL)
theorem RSt.later {w x y : World} {sv gv xv : Value} {L' GL XL : List Int} {b0 b1 b2 : Nat} (h : RSt w sv gv xv L' GL XL b0 b1 b2 x) (hb : Below x.heap.size x y) : RSt w sv gv xv L' GL XL b0 b1 b2 y :=
  ⟨below_later h.z hb, owns_below h.os hb, owns_below h.og hb, owns_below h.ox hb⟩
theorem RSt.drew {w x : World} {sv gv xv : Value} {L' GL XL : List Int} {b0 b1 b2 : Nat} (h : RSt w sv gv xv L' GL XL b0 b1 b2 x) : RSt w sv gv xv L' GL XL b0 b1 b2 x.drew :=
  ⟨h.z.drew, h.os, h.og, h.ox⟩
theorem owns_kept {x y : World} {b0 n : Nat} {v : Value} {xs : List Value} {row : Option Nat} (h : x.ownsRow b0 3 1 v n xs) (hg : x.grownBy y row) (hn : ∀ k, row = some k → v.ownBlock ≠ some k) : y.ownsRow b0 3 1 v n xs := by
  refine h.kept hg ?_
  cases e : v.ownBlock with
  | none => exact .inl rfl
  | some k => exact .inr (fun e2 => hn k e2.symm e)
theorem RSt.markX {w x y : World} {sv gv xv : Value} {L' GL XL XL' : List Int} {b0 b1 b2 : Nat} (h : RSt w sv gv xv L' GL XL b0 b1 b2 x) (hg : x.grownBy y xv.ownBlock) (ho : y.ownsRow b2 3 1 xv XL'.length (i64s XL'))
    (hw : w.heap.size ≤ b2) (hn : ∀ k, xv.ownBlock = some k → sv.ownBlock ≠ some k ∧ gv.ownBlock ≠ some k) : RSt w sv gv xv L' GL XL' b0 b1 b2 y :=
  ⟨Below.grown h.z hg h.z.size (fun k hk => Nat.le_trans hw (owns_own h.ox k hk).1), owns_kept h.os hg (fun k hk => (hn k hk).1), owns_kept h.og hg (fun k hk => (hn k hk).2), ho⟩
theorem RSt.markG {w x y : World} {sv gv xv : Value} {L' GL GL' XL : List Int} {b0 b1 b2 : Nat} (h : RSt w sv gv xv L' GL XL b0 b1 b2 x) (hg : x.grownBy y gv.ownBlock) (ho : y.ownsRow b1 3 1 gv GL'.length (i64s GL'))
    (hw : w.heap.size ≤ b1) (hn : ∀ k, gv.ownBlock = some k → sv.ownBlock ≠ some k ∧ xv.ownBlock ≠ some k) : RSt w sv gv xv L' GL' XL b0 b1 b2 y :=
  ⟨Below.grown h.z hg h.z.size (fun k hk => Nat.le_trans hw (owns_own h.og k hk).1), owns_kept h.os hg (fun k hk => (hn k hk).1), ho, owns_kept h.ox hg (fun k hk => (hn k hk).2)⟩
theorem runR_len (L : List Int) : (runR L).length ≤ 60 := by
  unfold runR
  split
  · simp
  · rw [runC_len]; omega
set_option maxHeartbeats 4000000 in
set_option maxRecDepth 100000 in
theorem walk_FnExactWindowRun (a : Option Addr) (len cap : Nat) (E : Nat → Int) (w : World) (hT : Ints w a len E) (h1 : len ≤ cap) (h2 : cap ≤ maxLen) :
    Calls Try.prog 6 #[.slice a len cap] w fun e w' => e = .returned (.bool true) ∧ Below w.heap.size w w' := by
  have HT := hid_in hT
  have hm : (len : Int) ≤ 9223372036854775807 := by unfold maxLen at h2; omega
  clear hT
  by_cases hlen : len ≤ 1048576
  · have hd : decide ((1048576 : Int) < (len : Int)) = false := by simp; omega
    have hLE : (LE E len).length = len := by simp [LE]
    have HLE := hid_in hLE
    clear hLE
    go_enter Try.func6, Try.ntmps6
    go_wp2_with fail
    refine (toIntS_any a len cap E _ (HT.out) hlen).mono ?_
    rintro e w1 ⟨rfl, r1, hb1⟩
    have Z1 := hid_in hb1; have R1 := hid_in r1
    clear hb1 r1
    go_wp2_with fail
    refine (windowRunS _ (LE E len) _ (R1.out.il hlen) (by rw [HLE.out]; exact hlen)).mono ?_
    rintro e w2 ⟨v2, rfl, o2, hb2⟩
    obtain ⟨L', hL'⟩ : ∃ L', runR (LE E len) = L' := ⟨_, rfl⟩
    have hl' : L'.length ≤ 60 := by rw [← hL']; exact runR_len _
    rw [hL'] at o2
    have RES := hid_in hL'
    obtain ⟨a2, c2, rfl⟩ := owns_form o2
    have HS2 : Hid (∀ k, (Value.slice a2 L'.length c2).ownBlock = some k → k < w2.heap.size) := fun k hk => (owns_own o2 k hk).2
    have Z2 := hid_in (below_later Z1.out hb2); have O2 := hid_in o2
    have l2 : w.heap.size ≤ w2.heap.size := Z2.out.size
    clear hb2 Z1 R1 o2 hL'
    go_wp2_with fail
    refine (toIntS_any a len cap E _ (HT.out.later Z2.out) hlen).mono ?_
    rintro e w3 ⟨rfl, r3, hb3⟩
    have Z3 := hid_in (below_later Z2.out hb3); have O3 := hid_in (owns_below O2.out hb3); have R3 := hid_in r3
    have l3 : w2.heap.size + 1 ≤ w3.heap.size := r3.lt
    clear hb3 Z2 O2 r3
    go_wp2_with fail
    refine (windowRunI _ (LE E len) _ (R3.out.il hlen) (by rw [HLE.out]; exact hlen)).mono ?_
    rintro e w4 ⟨v4, rfl, o4, hb4⟩
    rw [RES.out] at o4
    obtain ⟨a4, c4, rfl⟩ := owns_form o4
    have S4 : Hid (RSt w (.slice a2 L'.length c2) (.slice a4 L'.length c4) (.slice (some ⟨w2.heap.size, 0, none⟩) len len) L' L' (LE E len) w1.heap.size w3.heap.size w2.heap.size w4) := by
      show RSt _ _ _ _ _ _ _ _ _ _ _
      exact ⟨below_later Z3.out hb4, owns_below O3.out hb4, o4, by have h := (R3.out.later hb4).owns (Nat.le_refl _) (by unfold maxLen; omega); rw [HLE.out]; exact h⟩
    have GB : Hid (∀ k, (Value.slice a4 L'.length c4).ownBlock = some k → w3.heap.size ≤ k ∧ k < w4.heap.size) := fun k hk => owns_own o4 k hk
    clear hb4 o4 Z3 O3 R3
    have hp1 : decide (1 + ((LE E len).length : Int) < 0) = false := by simp; omega
    have hp2 : decide (1 + (L'.length : Int) < 0) = false := by simp; omega
    go_wp2_with fail
    refine (eqI_any _ _ L' _ (owns_il S4.out.og) (owns_il S4.out.os) (by omega)).mono ?_
    rintro e w5 ⟨rfl, hb5⟩
    have S5 := hid_in (S4.out.later hb5)
    clear hb5 S4
    go_wp2_with fail
    refine (toIntS_any a len cap E _ (HT.out.later S5.out.z) hlen).mono ?_
    rintro e w6 ⟨rfl, r6, hb6⟩
    have S6 := hid_in (S5.out.later hb6); have R6 := hid_in r6
    clear hb6 r6 S5
    go_wp2_with fail
    refine (eqI_any _ _ (LE E len) _ (IL.of_owns S6.out.ox (by simp [LE])) (R6.out.il hlen) (by rw [HLE.out]; exact hlen)).mono ?_
    rintro e w7 ⟨rfl, hb7⟩
    have S7 := hid_in (S6.out.later hb7)
    clear hb7 S6 R6
    go_wp2_with fail
    refine (mark_any w2.heap.size _ (LE E len) 1 _ S7.out.ox (by rw [HLE.out]; exact hlen) (by omega) (by omega)).mono ?_
    rintro e w8 ⟨rfl, o8, g8⟩
    have S8 := hid_in (S7.out.markX (XL' := upFrom 1 (LE E len).length) g8 (by rw [upFrom_len]; exact o8) (by omega) (fun k hk => by have h : w2.heap.size = k := Option.some.inj hk; subst h; exact ⟨fun e => by have := HS2.out _ e; omega, fun e => by have := GB.out _ e; omega⟩))
    clear S7 o8 g8
    go_wp2_with fail
    refine (eqI_any _ _ L' _ (owns_il S8.out.og) (owns_il S8.out.os) (by omega)).mono ?_
    rintro e w9 ⟨rfl, hb9⟩
    have S9 := hid_in (S8.out.later hb9)
    clear hb9 S8
    go_wp2_with fail
    refine (mark_any w3.heap.size _ L' 1 _ S9.out.og (by omega) (by omega) (by omega)).mono ?_
    rintro e w10 ⟨rfl, o10, g10⟩
    have S10 := hid_in (S9.out.markG (GL' := upFrom 1 L'.length) g10 (by rw [upFrom_len]; exact o10) (by omega) (fun k hk => by have := GB.out k hk; exact ⟨fun e => by have := HS2.out _ e; omega, fun e => by have h : w2.heap.size = k := Option.some.inj e; omega⟩))
    clear S9 o10 g10
    go_wp2_with fail
    refine (held_any w3.heap.size _ L'.length 1 _ (by have h := S10.out.og; rw [upFrom_len] at h; exact h) (by omega) (by omega) (by omega)).mono ?_
    rintro e w11 ⟨rfl, hb11⟩
    have S11 := hid_in (S10.out.later hb11)
    clear hb11 S10
    go_wp2_with fail
    refine (toIntS_any a len cap E _ (HT.out.later S11.out.z) hlen).mono ?_
    rintro e w12 ⟨rfl, r12, hb12⟩
    have S12 := hid_in (S11.out.later hb12); have R12 := hid_in r12
    clear hb12 r12 S11
    go_wp2_with fail
    refine (windowRunI _ (LE E len) _ (R12.out.il hlen) (by rw [HLE.out]; exact hlen)).mono ?_
    rintro e w13 ⟨v13, rfl, o13, hb13⟩
    rw [RES.out] at o13
    obtain ⟨a13, c13, rfl⟩ := owns_form o13
    have S13 := hid_in (S12.out.later hb13); have O13 := hid_in o13
    clear hb13 o13 S12 R12
    go_wp2_with fail
    refine (eqI_any _ _ L' _ (owns_il O13.out) (owns_il S13.out.os) (by omega)).mono ?_
    rintro e w15 ⟨rfl, hb15⟩
    have S15 := hid_in (S13.out.later hb15)
    clear hb15 S13 O13
    go_wp2_with fail
    refine (held_any w3.heap.size _ L'.length 1 _ (by have h := S15.out.og; rw [upFrom_len] at h; exact h) (by omega) (by omega) (by omega)).mono ?_
    rintro e w16 ⟨rfl, hb16⟩
    have S16 := hid_in (S15.out.later hb16)
    clear hb16 S15
    go_wp2_with fail
    go_ret
    exact ⟨rfl, S16.out.z⟩
  · have hd : decide ((1048576 : Int) < (len : Int)) = true := by simp; omega
    go_enter Try.func6, Try.ntmps6
    go_wp2_with fail
    go_ret
    exact ⟨rfl, Below.refl _ _⟩
end Go.Proofs.Ytlfeedbnjhhmiaa
