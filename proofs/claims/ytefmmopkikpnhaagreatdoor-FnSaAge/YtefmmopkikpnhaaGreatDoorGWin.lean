/- What is proved: the contracts of IntS, WinM, WinA, WinB, WinC, WinD, SaA, one behind the other. The conditions stand at each theorem. -/
import Derived.Test.YtefmmopkikpnhaaGreatDoorProg
import Derived.Test.YtefmmopkikpnhaaGreatDoorGBas
import Derived.WalkKit
import Derived.WalkSpells
import Derived.WalkLawsBesides
import Derived.BigQuiet
import Derived.Deep.OwnRows
import Derived.Deep.LoopGhost
import Derived.Handy
import Derived.Deep.RegionWith
import Derived.Test.YtefmmopkikpnhaaGreatDoorGFrA
import Derived.Deep.RegionHeld3
import Derived.Test.YtefmmopkikpnhaaGreatDoorGFrC
namespace Go.Proofs.YtefmmopkikpnhaaGreatDoor
open Go.RowKit Go.LatT Go.BlockM Go.OpnT
set_option linter.unusedVariables false
set_option linter.unusedSimpArgs false
/-- A slice of numbers: empty, or a row of cells. -/
def Ints (w : World) (a : Option Addr) (len : Nat) (E : Nat → Int) : Prop :=
  len = 0 ∨ ∃ bb off, a = some ⟨bb, off, none⟩ ∧ bb < w.heap.size ∧ ∀ i, i < len → w.cell? ⟨bb, off + i, none⟩ = some (.int .i64 (E i))
theorem Ints.later {w w' : World} {a : Option Addr} {len : Nat} {E : Nat → Int} (h : Ints w a len E) (hb : Below w.heap.size w w') : Ints w' a len E := by
  rcases h with h | ⟨bb, off, e, hlt, hc⟩
  · exact .inl h
  · exact .inr ⟨bb, off, e, Nat.lt_of_lt_of_le hlt hb.size, fun i hi => by rw [(bcell hb).1 _ _ hlt]; exact hc i hi⟩
/-- A block of numbers. -/
def IRow (w : World) (b n : Nat) (E : Nat → Int) : Prop := w.rowIs b 3 n (fun i => .int .i64 (E i))
theorem IRow.ints {w : World} {b n : Nat} {E : Nat → Int} (h : IRow w b n E) : Ints w (some ⟨b, 0, none⟩) n E :=
  .inr ⟨b, 0, rfl, h.lt, fun i hi => by rw [Nat.zero_add]; exact h.cell hi⟩
theorem IRow.later {w w' : World} {b n : Nat} {E : Nat → Int} (h : IRow w b n E) (hb : Below w.heap.size w w') : IRow w' b n E := h.of_block (hb.block _ h.lt)
theorem infoInt : (Tryz.prog.info? 3).map (fun i => (i.zero, i.size, i.bytes)) = some (some (.int .i64 0), 1, 8) := by kernel_rfl
end Go.Proofs.YtefmmopkikpnhaaGreatDoor

namespace Go.WinMath
set_option linter.unusedVariables false
def shl (c k : Nat) : Nat := c * 2 ^ min k 16 % 65536
theorem shl_lt (c k : Nat) : shl c k < 65536 := Nat.mod_lt _ (by decide)
theorem shl_bit (c k j : Nat) (hj : j < 16) : (shl c k).testBit j = (decide (k ≤ j) && c.testBit (j - k)) := by
  unfold shl
  rw [show (65536 : Nat) = 2 ^ 16 from rfl, Nat.testBit_mod_two_pow, ← Nat.shiftLeft_eq, Nat.testBit_shiftLeft]
  by_cases hk : k ≤ 16
  · rw [Nat.min_eq_left hk]; simp [hj]
  · rw [Nat.min_eq_right (by omega)]
    have h1 : ¬ 16 ≤ j := by omega
    have h2 : ¬ k ≤ j := by omega
    simp [h1, h2]
theorem one_pow (k : Nat) (hk : k < 16) : shl 1 k = 2 ^ k := by
  unfold shl
  rw [Nat.min_eq_left (by omega), Nat.one_mul]
  exact Nat.mod_eq_of_lt (by rw [show (65536 : Nat) = 2 ^ 16 from rfl]; exact Nat.pow_lt_pow_right (by decide) hk)
theorem and_bit (c k : Nat) (hk : k < 16) : (c &&& shl 1 k = 0) ↔ c.testBit k = false := by
  rw [one_pow k hk]
  constructor
  · intro h
    have : (c &&& 2 ^ k).testBit k = false := by rw [h]; simp
    rw [Nat.testBit_and, Nat.testBit_two_pow] at this
    simpa using this
  · intro h
    apply Nat.eq_of_testBit_eq
    intro i
    rw [Nat.testBit_and, Nat.testBit_two_pow]
    by_cases e : k = i
    · subst e; simp [h]
    · simp [e]
theorem or_bit (c k j : Nat) (hk : k < 16) : (c ||| shl 1 k).testBit j = (c.testBit j || decide (j = k)) := by
  rw [Nat.testBit_or, one_pow k hk, Nat.testBit_two_pow]
  congr 1
  rw [Bool.eq_iff_iff]; simp; omega
theorem or_lt (c k : Nat) (hc : c < 65536) : c ||| shl 1 k < 65536 := by
  rw [show (65536 : Nat) = 2 ^ 16 from rfl] at *
  exact Nat.or_lt_two_pow hc (shl_lt 1 k)
/-- A word of bits, as of a top, is just the numbers of a list, which ascends, and reaches sixteen back at most. -/
structure Rep (T : Int) (c : Nat) (L : List Int) : Prop where
  lt : c < 65536
  t0 : 0 ≤ T
  t1 : T ≤ 1000000
  mem : ∀ x, x ∈ L → 1 ≤ x ∧ x ≤ T ∧ T - 16 < x
  asc : L.Pairwise (· < ·)
  bit : ∀ j : Nat, j < 16 → (c.testBit j = true ↔ T - j ∈ L)
theorem rep_nil : Rep 0 0 [] := ⟨by decide, by decide, by decide, fun x h => (by cases h), .nil, fun j _ => by simp⟩
/-- A number put among others, ascending. -/
def ins (n : Int) : List Int → List Int
  | [] => [n]
  | x :: r => if x < n then x :: ins n r else if x = n then x :: r else n :: x :: r
theorem mem_ins (n x : Int) : ∀ L : List Int, x ∈ ins n L ↔ x = n ∨ x ∈ L
  | [] => by simp [ins]
  | y :: r => by
    have ih := mem_ins n x r
    unfold ins
    split
    · simp only [List.mem_cons, ih]; constructor
      · rintro (h | h | h) <;> simp [h]
      · rintro (h | h | h) <;> simp [h]
    · split
      · rename_i h1 h2; subst h2; simp
      · simp only [List.mem_cons]
theorem asc_ins (n : Int) : ∀ L : List Int, L.Pairwise (· < ·) → (ins n L).Pairwise (· < ·)
  | [], _ => by simp [ins]
  | y :: r, h => by
    have h1 := List.pairwise_cons.1 h
    unfold ins
    split
    · rename_i hy
      refine List.pairwise_cons.2 ⟨fun z hz => ?_, asc_ins n r h1.2⟩
      rcases (mem_ins n z r).1 hz with rfl | hz
      · exact hy
      · exact h1.1 z hz
    · split
      · exact h
      · rename_i h2 h3
        refine List.pairwise_cons.2 ⟨fun z hz => ?_, h⟩
        rcases List.mem_cons.1 hz with rfl | hz
        · omega
        · have := h1.1 z hz; omega
/-- What the list says to a number: a code; and the top and the list behind it. -/
def codeL (T : Int) (L : List Int) (n : Int) : Int := if n < 1 ∨ 1000000 < n then 1 else if n ≤ T - 16 then 2 else if n ∈ L then 3 else 0
def topL (T : Int) (L : List Int) (n : Int) : Int := if codeL T L n = 0 ∧ T < n then n else T
def listL (T : Int) (L : List Int) (n : Int) : List Int := if codeL T L n = 0 then (ins n L).filter (fun x => decide (topL T L n - 16 < x)) else L
/-- What the word says. -/
def wordT (T : Int) (n : Int) : Int := if T < n then n else T
def wordC (T : Int) (c : Nat) (n : Int) : Nat := if T < n then shl c (n - T).toNat else c
def wordB (T : Int) (n : Int) : Nat := shl 1 (wordT T n - n).toNat
theorem rep_word {T n : Int} {c : Nat} {L : List Int} (h : Rep T c L) (h1 : 1 ≤ n) (h2 : n ≤ 1000000) (h3 : T - 16 < n) :
    (wordC T c n < 65536) ∧ (wordT T n - n).toNat < 16 ∧ (∀ j : Nat, j < 16 → ((wordC T c n).testBit j = true ↔ wordT T n - j ∈ L)) := by
  unfold wordC wordT
  by_cases hn : T < n
  · simp only [hn, if_true]
    refine ⟨shl_lt _ _, by omega, fun j hj => ?_⟩
    rw [shl_bit _ _ _ hj]
    simp only [Bool.and_eq_true, decide_eq_true_eq]
    constructor
    · rintro ⟨a, b⟩
      have := (h.bit (j - (n - T).toNat) (by omega)).1 b
      rw [show n - (j : Int) = T - ((j - (n - T).toNat : Nat) : Int) by omega]
      exact this
    · intro hm
      have hb := h.mem _ hm
      refine ⟨by omega, (h.bit _ (by omega)).2 ?_⟩
      rw [show T - ((j - (n - T).toNat : Nat) : Int) = n - (j : Int) by omega]
      exact hm
  · simp only [hn, if_false]
    exact ⟨h.lt, by omega, h.bit⟩
theorem word_again {T n : Int} {c : Nat} {L : List Int} (h : Rep T c L) (h1 : 1 ≤ n) (h2 : n ≤ 1000000) (h3 : T - 16 < n) :
    (wordC T c n &&& wordB T n = 0) ↔ n ∉ L := by
  obtain ⟨_, hk, hb⟩ := rep_word h h1 h2 h3
  unfold wordB
  rw [and_bit _ _ hk]
  have := hb _ hk
  rw [show wordT T n - (((wordT T n - n).toNat : Nat) : Int) = n by
    have : n ≤ wordT T n := by unfold wordT; split <;> omega
    omega] at this
  rw [← this]
  simp
theorem rep_see {T n : Int} {c : Nat} {L : List Int} (h : Rep T c L) (h1 : 1 ≤ n) (h2 : n ≤ 1000000) (h3 : T - 16 < n) (h4 : n ∉ L) :
    Rep (topL T L n) (wordC T c n ||| wordB T n) (listL T L n) ∧ topL T L n = wordT T n ∧ codeL T L n = 0 := by
  obtain ⟨hc, hk, hb⟩ := rep_word h h1 h2 h3
  have hcode : codeL T L n = 0 := by
    unfold codeL
    rw [if_neg (by omega), if_neg (by omega), if_neg h4]
  have htop : topL T L n = wordT T n := by
    unfold topL wordT
    simp [hcode]
  have hle : n ≤ wordT T n ∧ T ≤ wordT T n ∧ wordT T n ≤ 1000000 ∧ 0 ≤ wordT T n := by
    have := h.t0; have := h.t1
    unfold wordT; split <;> omega
  have hmem : ∀ x, x ∈ listL T L n ↔ (x = n ∨ x ∈ L) ∧ wordT T n - 16 < x := by
    intro x
    unfold listL
    simp only [hcode, if_true, List.mem_filter, mem_ins, decide_eq_true_eq, htop]
  refine ⟨⟨or_lt _ _ hc, by rw [htop]; omega, by rw [htop]; omega, ?_, ?_, ?_⟩, htop, hcode⟩
  · intro x hx
    rw [htop]
    obtain ⟨a, b⟩ := (hmem x).1 hx
    rcases a with rfl | a
    · omega
    · have := h.mem x a; omega
  · unfold listL
    simp only [hcode, if_true]
    exact (asc_ins n L h.asc).filter _
  · intro j hj
    rw [htop, hmem]
    unfold wordB
    rw [or_bit _ _ _ hk, Bool.or_eq_true, hb j hj, decide_eq_true_eq]
    constructor
    · rintro (a | rfl)
      · exact ⟨.inr a, by omega⟩
      · exact ⟨.inl (by omega), by omega⟩
    · rintro ⟨a | a, _⟩
      · exact .inr (by omega)
      · exact .inl a
end Go.WinMath

namespace Go.Proofs.YtefmmopkikpnhaaGreatDoor
open Go.RowKit Go.LatT Go.BlockM Go.OpnT Go.WinMath
set_option linter.unusedVariables false
set_option linter.unusedSimpArgs false
theorem IRow.set {w : World} {b n g o : Nat} {E : Nat → Int} {v : Value} (h : IRow w b n E) (hg : b ≠ g) : IRow (w.setCell ⟨g, o, none⟩ v) b n E := h.of_block (Below.heap_setCell _ _ _ _ hg)
/-- A number of a window is out of place. -/
def wBad (t : Int) (E : Nat → Int) (i : Nat) : Prop := E i ≤ IntKind.i64.wrap (t - 16) ∨ E i < 1 ∨ (0 < i ∧ E i ≤ E (i - 1))
/-- A window is ok. -/
def WOk (t : Int) (len : Nat) (E : Nat → Int) : Prop := (len = 0 ∧ t = 0) ∨ (0 < len ∧ (∀ i, i < len → ¬ wBad t E i) ∧ E (len - 1) = t ∧ t ≤ 1000000)
set_option maxHeartbeats 2000000 in
set_option maxRecDepth 100000 in
theorem windowOkS (t : Int) (a : Option Addr) (len cap : Nat) (E : Nat → Int) (w : World) (hT : Ints w a len E) (hl : len ≤ 1048576) :
    Calls Tryz.prog 79 #[.agg #[.int .i64 t, .slice a len cap]] w fun e w' => ∃ v, e = .returned (.bool v) ∧ (v = true ↔ WOk t len E) ∧ Below w.heap.size w w' := by
  have HT := hid_in hT
  clear hT
  by_cases h0 : len = 0
  · subst h0
    go_enter Tryz.func79, Tryz.ntmps79
    go_wp2_with fail
    go_ret
    refine ⟨_, rfl, ?_, below_box _ _⟩
    simp [WOk]
  · have h0' : ((len : Int) == 0) = false := by simpa using h0
    obtain ⟨bb, off, rfl, hlt, hc⟩ := HT.out.resolve_left h0
    have HC := hid_in hc
    clear HT hc
    go_enter Tryz.func79, Tryz.ntmps79
    go_wp2_with fail
    have z0 := below_box w (Obj.cells #[.int .i64 t, .slice (some ⟨bb, off, none⟩) len cap] 43)
    have HZ := hid_in z0
    have hW0 : (w.alloc (Obj.cells #[.int .i64 t, .slice (some ⟨bb, off, none⟩) len cap] 43)).heap.size = w.heap.size + 1 := by simp
    have c0 : (w.alloc (Obj.cells #[.int .i64 t, .slice (some ⟨bb, off, none⟩) len cap] 43)).cell? ⟨w.heap.size, 0, none⟩ = some (.int .i64 t) := by go_simp
    have c1 : (w.alloc (Obj.cells #[.int .i64 t, .slice (some ⟨bb, off, none⟩) len cap] 43)).cell? ⟨w.heap.size, 1, none⟩ = some (.slice (some ⟨bb, off, none⟩) len cap) := by go_simp
    clear z0
    generalize w.alloc (Obj.cells #[.int .i64 t, .slice (some ⟨bb, off, none⟩) len cap] 43) = W at *
    obtain ⟨m, hm⟩ : ∃ m, IntKind.i64.wrap (t - 16) = m := ⟨_, rfl⟩
    have HM := hid_in hm
    clear hm
    have C0 := hid_in c0; have C1 := hid_in c1; have HS := hid_in hW0
    clear c0 c1 hW0
    go_loopw [4] (fun v wr => ∃ k : Nat, k ≤ len ∧ v = .int .i64 (k : Int) ∧ Hid (Below W.heap.size W wr ∧ ∀ i, i < k → ¬ wBad t E i)) (fun v _ => len - (intOf v).toNat)
    case atStart => exact ⟨0, Nat.zero_le _, rfl, by show _ ∧ _; exact ⟨Below.refl _ _, fun i hi => by omega⟩⟩
    case round =>
      obtain ⟨k, hk, rfl, HW⟩ := hrel
      have hW := HS.out
      have hmm : bb < W.heap.size := by omega
      have q0 := ((bcell HW.out.1).1 w.heap.size 0 (by omega)).trans C0.out
      have q1 := ((bcell HW.out.1).1 w.heap.size 1 (by omega)).trans C1.out
      have hg := fun i (hi : i < len) => ((bcell HW.out.1).1 bb (off + i) hmm).trans (((bcell HZ.out).1 bb _ hlt).trans (HC.out i hi))
      have HG := hid_in hg
      have hm := HM.out
      have hm1 : bb < wr.heap.size := Nat.lt_of_lt_of_le hmm HW.out.1.size
      have hm2 : w.heap.size < wr.heap.size := by have := HW.out.1.size; omega
      clear hW
      by_cases hlt' : k < len
      · have hd : (k : Int) < (len : Int) := by omega
        have g0 := hg k hlt'
        clear hg
        have endBad : Hid (wBad t E k → (false = true ↔ WOk t len E)) := by
          show _ → _
          intro hbad
          constructor
          · intro h; cases h
          · rintro (⟨h, _⟩ | ⟨_, h, _⟩)
            · omega
            · exact absurd hbad (h k hlt')
        by_cases hA : E k ≤ m
        · go_wp2_with fail
          refine wp_region_lat (Below.refl _ _) (by kernel_rfl) (by kernel_rfl) ?_
          intro hne hcl
          repeat (go_big_quiet_step (first | (fail)))
          refine wpQuiet_nil ?_
          intro w1 hb1
          obtain ⟨hc1, hf1⟩ := bcell hb1
          clear hne hcl
          go_wp2_with fail
          go_ret
          exact ⟨_, rfl, endBad.out (.inl (by rw [hm]; exact hA)), below_later HZ.out (below_later HW.out.1 hb1)⟩
        · have hA' : decide (E k ≤ m) = false := by simp; omega
          by_cases hB : E k < 1
          · go_wp2_with fail
            refine wp_region_lat (Below.refl _ _) (by kernel_rfl) (by kernel_rfl) ?_
            intro hne hcl
            repeat (go_big_quiet_step (first | (fail)))
            refine wpQuiet_nil ?_
            intro w1 hb1
            obtain ⟨hc1, hf1⟩ := bcell hb1
            clear hne hcl
            go_wp2_with fail
            go_ret
            exact ⟨_, rfl, endBad.out (.inr (.inl hB)), below_later HZ.out (below_later HW.out.1 hb1)⟩
          · have hB' : decide (E k < 1) = false := by simp; omega
            cases k with
            | zero =>
              simp only [Nat.add_zero] at g0
              go_wp2_with fail
              refine wp_region_lat (Below.refl _ _) (by kernel_rfl) (by kernel_rfl) ?_
              intro hne hcl
              repeat (go_big_quiet_step (first | (fail)))
              refine wpQuiet_nil ?_
              intro w1 hb1
              obtain ⟨hc1, hf1⟩ := bcell hb1
              clear hne hcl
              go_wp2_with fail
              refine ⟨⟨1, by omega, by simp, ?_⟩, by simp [intOf]; omega⟩
              show _ ∧ _
              refine ⟨below_later HW.out.1 hb1, fun i hi => ?_⟩
              obtain rfl : i = 0 := by omega
              rintro (h | h | ⟨h, _⟩)
              · rw [hm] at h; omega
              · omega
              · omega
            | succ j =>
              have g1 := HG.out j (by omega)
              have hpos : decide ((0 : Int) < (j : Int) + 1) = true := by simp; try omega
              have hpos2 : (j : Int) < len := by omega
              by_cases hC : E (j + 1) ≤ E j
              · go_wp2_with fail
                refine wp_region_lat (Below.refl _ _) (by kernel_rfl) (by kernel_rfl) ?_
                intro hne hcl
                repeat (go_big_quiet_step (first | (fail)))
                refine wpQuiet_nil ?_
                intro w1 hb1
                obtain ⟨hc1, hf1⟩ := bcell hb1
                clear hne hcl
                go_wp2_with fail
                go_ret
                exact ⟨_, rfl, endBad.out (.inr (.inr ⟨by omega, hC⟩)), below_later HZ.out (below_later HW.out.1 hb1)⟩
              · have hC' : decide (E (j + 1) ≤ E j) = false := by simp; omega
                go_wp2_with fail
                refine wp_region_lat (Below.refl _ _) (by kernel_rfl) (by kernel_rfl) ?_
                intro hne hcl
                repeat (go_big_quiet_step (first | (fail)))
                refine wpQuiet_nil ?_
                intro w1 hb1
                obtain ⟨hc1, hf1⟩ := bcell hb1
                clear hne hcl
                go_wp2_with fail
                refine ⟨⟨j + 2, by omega, by simp; omega, ?_⟩, by simp [intOf]; omega⟩
                show _ ∧ _
                refine ⟨below_later HW.out.1 hb1, fun i hi => ?_⟩
                by_cases hij : i < j + 1
                · exact HW.out.2 i hij
                · obtain rfl : i = j + 1 := by omega
                  rintro (h | h | ⟨h, h'⟩)
                  · rw [hm] at h; omega
                  · omega
                  · rw [Nat.add_sub_cancel] at h'; omega
      · have hd : decide ((k : Int) < (len : Int)) = false := by simp; omega
        have e : k = len := by omega
        have HE := hid_in e
        have g0 := hg (len - 1) (by omega)
        have e1 : ((len : Int) - 1).toNat = len - 1 := by omega
        have e2 : (0 : Int) ≤ (len : Int) - 1 := by omega
        have e3 : off + (len - 1) = off + (len - 1) := rfl
        clear e hg
        by_cases hT1 : E (len - 1) = t
        · have hT2 : (E (len - 1) == t) = true := by simpa using hT1
          go_wp2_with fail
          refine wp_region_lat (Below.refl _ _) (by kernel_rfl) (by kernel_rfl) ?_
          intro hne hcl
          repeat (go_big_quiet_step (first | (fail)))
          refine wpQuiet_nil ?_
          intro w1 hb1
          obtain ⟨hc1, hf1⟩ := bcell hb1
          clear hne hcl
          go_wp2_with fail
          go_ret
          refine ⟨_, rfl, ?_, below_later HZ.out (below_later HW.out.1 hb1)⟩
          constructor
          · intro h; exact .inr ⟨by omega, fun i hi => HW.out.2 i (by rw [HE.out]; exact hi), hT1, by simpa using h⟩
          · rintro (⟨h, _⟩ | ⟨_, _, _, h⟩)
            · omega
            · simpa using h
        · have hT2 : (E (len - 1) == t) = false := by simpa using hT1
          go_wp2_with fail
          refine wp_region_lat (Below.refl _ _) (by kernel_rfl) (by kernel_rfl) ?_
          intro hne hcl
          repeat (go_big_quiet_step (first | (fail)))
          refine wpQuiet_nil ?_
          intro w1 hb1
          obtain ⟨hc1, hf1⟩ := bcell hb1
          clear hne hcl
          go_wp2_with fail
          go_ret
          refine ⟨_, rfl, ?_, below_later HZ.out (below_later HW.out.1 hb1)⟩
          constructor
          · intro h; cases h
          · rintro (⟨h, _⟩ | ⟨_, _, h, _⟩)
            · omega
            · exact absurd h hT1
end Go.Proofs.YtefmmopkikpnhaaGreatDoor

namespace Go.Proofs.YtefmmopkikpnhaaGreatDoor
open Go.RowKit Go.LatT Go.BlockM Go.OpnT Go.WinMath
set_option linter.unusedVariables false
set_option linter.unusedSimpArgs false
/-- A trail lies in a block. -/
structure Tr (w : World) (g : Nat) (T : Int) (c : Nat) : Prop where
  c0 : w.cell? ⟨g, 0, none⟩ = some (.int .i64 T)
  c1 : w.cell? ⟨g, 1, none⟩ = some (.int .u16 (c : Int))
  f0 : w.frozen? ⟨g, 0, none⟩ = false
  f1 : w.frozen? ⟨g, 1, none⟩ = false
theorem ofInt_u16 (a : Nat) (h : a < 65536) : (BitVec.ofInt 16 (a : Int)).toNat = a := by
  rw [BitVec.toNat_ofInt]
  omega
theorem wrap_u16_small (a : Nat) (h : a < 65536) : IntKind.u16.wrap (a : Int) = a := by
  rw [IntKind.wrap_u16]; omega
theorem and_u16 (a b : Nat) (ha : a < 65536) (hb : b < 65536) : bits .and .u16 (a : Int) (b : Int) = ((a &&& b : Nat) : Int) := by
  show IntKind.u16.wrap ((BitVec.ofInt 16 (a : Int) &&& BitVec.ofInt 16 (b : Int)).toNat : Int) = _
  rw [BitVec.toNat_and, ofInt_u16 a ha, ofInt_u16 b hb]
  exact wrap_u16_small _ (Nat.lt_of_le_of_lt Nat.and_le_left ha)
theorem or_u16 (a b : Nat) (ha : a < 65536) (hb : b < 65536) : bits .or .u16 (a : Int) (b : Int) = ((a ||| b : Nat) : Int) := by
  show IntKind.u16.wrap ((BitVec.ofInt 16 (a : Int) ||| BitVec.ofInt 16 (b : Int)).toNat : Int) = _
  rw [BitVec.toNat_or, ofInt_u16 a ha, ofInt_u16 b hb]
  refine wrap_u16_small _ ?_
  rw [show (65536 : Nat) = 2 ^ 16 from rfl] at *
  exact Nat.or_lt_two_pow ha hb
theorem bit_u16 (k : Nat) (h : k < 16) : IntKind.u16.wrap (2 ^ k) = ((shl 1 k : Nat) : Int) := by
  rw [one_pow k h]
  have e : ((2 : Int) ^ k) = ((2 ^ k : Nat) : Int) := by simp
  rw [e]
  exact wrap_u16_small _ (by rw [show (65536 : Nat) = 2 ^ 16 from rfl]; exact Nat.pow_lt_pow_right (by decide) h)
theorem shl_u16 (c k : Nat) : IntKind.u16.wrap ((c : Int) * 2 ^ min k 16) = ((shl c k : Nat) : Int) := by
  unfold shl
  have e : ((2 : Int) ^ min k 16) = ((2 ^ min k 16 : Nat) : Int) := by simp
  have e2 : (c : Int) * ((2 ^ min k 16 : Nat) : Int) = ((c * 2 ^ min k 16 : Nat) : Int) := (Int.natCast_mul _ _).symm
  rw [e, e2, IntKind.wrap_u16]
  omega
/-- What seeing leaves. -/
def SeePost (g : Nat) (T n : Int) (L : List Int) (w : World) (e : Ending) (w' : World) : Prop :=
  ∃ c', e = .returned (.int .i64 (codeL T L n)) ∧ Tr w' g (topL T L n) c' ∧ Rep (topL T L n) c' (listL T L n) ∧ Mv g w w' ∧ w'.heap.size = w.heap.size
theorem SeePost.none {g : Nat} {T n : Int} {c : Nat} {L : List Int} {w : World} {k : Int} (h : Tr w g T c) (hr : Rep T c L) (hk : codeL T L n = k) (h0 : k ≠ 0) : SeePost g T n L w (.returned (.int .i64 k)) w := by
  have e1 : topL T L n = T := by unfold topL; rw [if_neg (by rw [hk]; exact fun h => h0 h.1)]
  have e2 : listL T L n = L := by unfold listL; rw [if_neg (by rw [hk]; exact h0)]
  exact ⟨c, by rw [hk], by rw [e1]; exact h, by rw [e1, e2]; exact hr, Mv.refl _ _, rfl⟩
theorem SeePost.fine {g : Nat} {T n : Int} {c : Nat} {L : List Int} {w w' : World} (hr : Rep T c L) (h1 : 1 ≤ n) (h2 : n ≤ 1000000) (h3 : T - 16 < n) (h4 : n ∉ L) (h : Tr w' g (wordT T n) (wordC T c n ||| wordB T n)) (m : Mv g w w') (hs : w'.heap.size = w.heap.size) : SeePost g T n L w (.returned (.int .i64 0)) w' := by
  obtain ⟨a, b, d⟩ := rep_see hr h1 h2 h3 h4
  exact ⟨_, by rw [d], by rw [b]; exact h, a, m, hs⟩
theorem Mv.poke1 {g o : Nat} {w w' : World} (h : Mv g w w') (v : Value) : Mv g w (w'.setCell ⟨g, o, none⟩ v) :=
  ⟨h.os, h.tape, h.output, by simpa [World.setCell] using h.size, fun k hk hr => (Below.heap_setCell _ _ _ _ hr).trans (h.block k hk hr)⟩
theorem Mv.drew1 {g : Nat} {w w' : World} (h : Mv g w w') : Mv g w w'.drew := ⟨h.os, h.tape, h.output, h.size, h.block⟩
set_option maxHeartbeats 2000000 in
set_option maxRecDepth 100000 in
theorem see_any (g : Nat) (T n : Int) (c : Nat) (L : List Int) (w : World) (h : Tr w g T c) (hr : Rep T c L) :
    Calls Tryz.prog 171 #[.pointer (some ⟨g, 0, none⟩), .int .i64 n] w (SeePost g T n L w) := by
  have HT := hid_in h
  obtain ⟨c0, c1, f0, f1⟩ := h
  have t0 := hr.t0; have t1 := hr.t1
  have HR := hid_in hr
  clear hr
  by_cases h1 : n < 1
  · go_enter Tryz.func171, Tryz.ntmps171
    go_wp2_with fail
    go_ret
    exact SeePost.none HT.out HR.out (by unfold codeL; rw [if_pos (.inl h1)]) (by decide)
  · by_cases h2 : 1000000 < n
    · go_enter Tryz.func171, Tryz.ntmps171
      go_wp2_with fail
      go_ret
      exact SeePost.none HT.out HR.out (by unfold codeL; rw [if_pos (.inr h2)]) (by decide)
    · by_cases h3 : n ≤ T - 16
      · go_enter Tryz.func171, Tryz.ntmps171
        go_wp2_with fail
        go_ret
        exact SeePost.none HT.out HR.out (by unfold codeL; rw [if_neg (by omega), if_pos h3]) (by decide)
      · have hw := rep_word HR.out (n := n) (by omega) (by omega) (by omega)
        have ha := word_again HR.out (n := n) (by omega) (by omega) (by omega)
        have HW := hid_in hw; have HA := hid_in ha
        clear hw ha
        by_cases h4 : T < n
        · have hL : n ∉ L := fun hm => by have := HR.out.mem n hm; omega
          have h5 : 0 ≤ n - T := by omega
          have hs : Op.shift .shl .u16 (c : Int) .i64 (n - T) = pure (.int .u16 ((shl c (n - T).toNat : Nat) : Int)) := by
            rw [shift_shl_any _ _ _ _ h5, ← shl_u16]; rfl
          have eT : wordT T n = n := by unfold wordT; rw [if_pos h4]
          have eC : wordC T c n = shl c (n - T).toNat := by unfold wordC; rw [if_pos h4]
          have eB : wordB T n = 1 := by unfold wordB; rw [eT, Int.sub_self]; rfl
          have e2 := and_u16 (shl c (n - T).toNat) 1 (shl_lt _ _) (by decide)
          have e3 := or_u16 (shl c (n - T).toNat) 1 (shl_lt _ _) (by decide)
          simp only [Int.cast_ofNat_Int] at e2 e3
          have e4 : (bits .and .u16 ((shl c (n - T).toNat : Nat) : Int) 1 != 0) = false := by
            have := HA.out.2 hL
            rw [eC, eB] at this
            rw [e2, this]; rfl
          clear e2
          have HE := hid_in (And.intro eT (And.intro eC eB))
          clear eT eC eB
          go_enter Tryz.func171, Tryz.ntmps171
          go_wp2_with fail
          go_region
          go_wp2_with fail
          go_ret
          refine SeePost.fine HR.out h1 h2 h3 hL ?_ ?_ ?_
          · rw [HE.out.1, HE.out.2.1, HE.out.2.2]
            exact ⟨by go_simp, by go_simp, by go_simp, by go_simp⟩
          · exact ((((Mv.refl g w).poke1 _).poke1 _).poke1 _).drew1
          · simp [World.setCell]
        · have eT : wordT T n = T := by unfold wordT; rw [if_neg h4]
          have eC : wordC T c n = c := by unfold wordC; rw [if_neg h4]
          have hk : (T - n).toNat < 16 := by have := HW.out.2.1; rw [eT] at this; exact this
          have e1 := bit_u16 _ hk
          have e2 := and_u16 c (shl 1 (T - n).toNat) HR.out.lt (shl_lt _ _)
          have e3 := or_u16 c (shl 1 (T - n).toNat) HR.out.lt (shl_lt _ _)
          have eB : wordB T n = shl 1 (T - n).toNat := by unfold wordB; rw [eT]
          have HE := hid_in (And.intro eT (And.intro eC eB))
          clear eT eC eB hk
          by_cases hL : n ∈ L
          · have e4 : (((c &&& shl 1 (T - n).toNat : Nat) : Int) != 0) = true := by
              have := HA.out
              rw [HE.out.2.1, HE.out.2.2] at this
              have h5 : c &&& shl 1 (T - n).toNat ≠ 0 := fun e => (this.1 e) hL
              simp; omega
            go_enter Tryz.func171, Tryz.ntmps171
            go_wp2_with fail
            go_ret
            exact SeePost.none HT.out HR.out (by unfold codeL; rw [if_neg (by omega), if_neg (by omega), if_pos hL]) (by decide)
          · have e4 : (((c &&& shl 1 (T - n).toNat : Nat) : Int) != 0) = false := by
              have := HA.out
              rw [HE.out.2.1, HE.out.2.2] at this
              have h5 : c &&& shl 1 (T - n).toNat = 0 := this.2 hL
              simp; omega
            go_enter Tryz.func171, Tryz.ntmps171
            go_wp2_with fail
            go_ret
            refine SeePost.fine HR.out h1 h2 h3 hL ?_ ((Mv.refl g w).poke1 _) (by simp [World.setCell])
            rw [HE.out.1, HE.out.2.1, HE.out.2.2]
            exact ⟨by go_simp, by go_simp, by go_simp, by go_simp⟩
end Go.Proofs.YtefmmopkikpnhaaGreatDoor

namespace Go.Proofs.YtefmmopkikpnhaaGreatDoor
open Go.RowKit Go.LatT Go.BlockM Go.OpnT Go.WinMath
set_option linter.unusedVariables false
set_option linter.unusedSimpArgs false
/-- The last of the first k numbers, or 0. -/
def topK (E : Nat → Int) (k : Nat) : Int := if k = 0 then 0 else E (k - 1)
/-- What was seen of the first k numbers. -/
def seenK (E : Nat → Int) : Nat → List Int
  | 0 => []
  | k + 1 => listL (topK E k) (seenK E k) (E k)
/-- The first k numbers as a list. -/
def LE (E : Nat → Int) (k : Nat) : List Int := (List.range k).map E
theorem LE_succ (E : Nat → Int) (k : Nat) : LE E (k + 1) = LE E k ++ [E k] := by simp [LE, List.range_succ]
theorem mem_LE {E : Nat → Int} {k : Nat} {x : Int} : x ∈ LE E k ↔ ∃ i, i < k ∧ E i = x := by simp [LE]
/-- A number may be the next. -/
def goodK (m : Int) (E : Nat → Int) (i : Nat) : Prop := topK E i < E i ∧ m < E i ∧ E i ≤ 1000000
theorem topK_nonneg {m : Int} {E : Nat → Int} : ∀ {k : Nat}, (∀ i, i < k → goodK m E i) → 0 ≤ topK E k
  | 0, _ => by simp [topK]
  | k + 1, h => by
    have h1 := topK_nonneg (m := m) (E := E) (k := k) (fun i hi => h i (by omega))
    have h2 := (h k (by omega)).1
    simp only [topK, Nat.add_sub_cancel, Nat.succ_ne_zero, if_false]
    omega
theorem topK_mono {m : Int} {E : Nat → Int} {k : Nat} : ∀ {n : Nat}, (∀ i, i < n → goodK m E i) → ∀ i, i < n → E i ≤ topK E n
  | 0, _, i, hi => by omega
  | n + 1, h, i, hi => by
    have hn := (h n (by omega)).1
    have e : topK E (n + 1) = E n := by simp [topK]
    rw [e]
    by_cases e2 : i = n
    · rw [e2]; omega
    · have := topK_mono (k := k) (n := n) (fun j hj => h j (by omega)) i (by omega)
      omega
theorem ins_last (n : Int) : ∀ L : List Int, (∀ x, x ∈ L → x < n) → ins n L = L ++ [n]
  | [], _ => rfl
  | x :: r, h => by
    have hx := h x (by simp)
    unfold ins
    rw [if_pos hx, ins_last n r (fun y hy => h y (by simp [hy]))]
    rfl
theorem code_good {m : Int} {E : Nat → Int} {k : Nat} {c : Nat} (h : ∀ i, i < k → goodK m E i) (hr : Rep (topK E k) c (seenK E k)) (hk : goodK m E k) : codeL (topK E k) (seenK E k) (E k) = 0 ∧ topL (topK E k) (seenK E k) (E k) = topK E (k + 1) := by
  have h0 := topK_nonneg h
  obtain ⟨g1, g2, g3⟩ := hk
  have hc : codeL (topK E k) (seenK E k) (E k) = 0 := by
    unfold codeL
    rw [if_neg (by omega), if_neg (by omega), if_neg (fun hm => by have := hr.mem _ hm; omega)]
  refine ⟨hc, ?_⟩
  unfold topL
  rw [if_pos ⟨hc, g1⟩]
  simp [topK]
theorem seen_all {m : Int} {E : Nat → Int} : ∀ {k : Nat}, (∀ i, i < k → goodK m E i) → (∀ i, i < k → topK E k - 16 < E i) → seenK E k = LE E k
  | 0, _, _ => rfl
  | k + 1, h, h2 => by
    have hlast := (h k (by omega))
    have e : topK E (k + 1) = E k := by simp [topK]
    rw [e] at h2
    have hle := fun i hi => topK_mono (k := 0) (n := k) (fun j hj => h j (by omega)) i hi
    have ih := seen_all (m := m) (E := E) (k := k) (fun i hi => h i (by omega)) (fun i hi => by have := h2 i (by omega); have := hlast.1; omega)
    have h0 := topK_nonneg (m := m) (E := E) (k := k) (fun i hi => h i (by omega))
    have hlt : ∀ x, x ∈ LE E k → x < E k := fun x hx => by
      obtain ⟨i, hi, rfl⟩ := mem_LE.1 hx
      have := hle i hi; have := hlast.1; omega
    have hc : codeL (topK E k) (LE E k) (E k) = 0 := by
      unfold codeL
      have := hlast.1; have := hlast.2.2
      rw [if_neg (by omega), if_neg (by omega), if_neg (fun hm => by have := hlt _ hm; omega)]
    have ht : topL (topK E k) (LE E k) (E k) = E k := by unfold topL; rw [if_pos ⟨hc, hlast.1⟩]
    show listL (topK E k) (seenK E k) (E k) = _
    rw [ih]
    unfold listL
    rw [if_pos hc, ht, ins_last _ _ hlt, LE_succ]
    apply List.filter_eq_self.2
    intro x hx
    rw [← LE_succ] at hx
    obtain ⟨i, hi, rfl⟩ := mem_LE.1 hx
    have := h2 i hi
    simp; omega
theorem wok_le {t : Int} {len : Nat} {E : Nat → Int} (h : WOk t len E) : ∀ (j i : Nat), i ≤ j → j < len → E i ≤ E j
  | 0, i, hij, hj => by rw [show i = 0 by omega]; exact Int.le_refl _
  | j + 1, i, hij, hj => by
    by_cases e : i = j + 1
    · rw [e]; exact Int.le_refl _
    · have h1 := wok_le h j i (by omega) (by omega)
      rcases h with ⟨h0, _⟩ | ⟨_, h2, _⟩
      · omega
      · have h3 := h2 (j + 1) hj
        have : ¬ E (j + 1) ≤ E (j + 1 - 1) := fun h4 => h3 (.inr (.inr ⟨by omega, h4⟩))
        rw [Nat.add_sub_cancel] at this
        omega
theorem wok_good {t : Int} {len : Nat} {E : Nat → Int} (h : WOk t len E) : (∀ i, i < len → goodK (IntKind.i64.wrap (t - 16)) E i) ∧ topK E len = t := by
  have hle := wok_le h
  rcases h with ⟨rfl, rfl⟩ | ⟨h0, h2, h3, h4⟩
  · exact ⟨fun i hi => by omega, rfl⟩
  · refine ⟨fun i hi => ?_, by rw [topK, if_neg (by omega)]; exact h3⟩
    have h5 := h2 i hi
    have h6 : ¬ E i < 1 := fun h => h5 (.inr (.inl h))
    have h7 : ¬ E i ≤ IntKind.i64.wrap (t - 16) := fun h => h5 (.inl h)
    have h8 := hle (len - 1) i (by omega) (by omega)
    refine ⟨?_, by omega, by omega⟩
    unfold topK
    split
    · omega
    · have : ¬ E i ≤ E (i - 1) := fun h => h5 (.inr (.inr ⟨by omega, h⟩))
      omega
theorem good_wok {t : Int} {len : Nat} {E : Nat → Int} (h : ∀ i, i < len → goodK (IntKind.i64.wrap (t - 16)) E i) (ht : topK E len = t) : WOk t len E := by
  by_cases h0 : len = 0
  · subst h0; exact .inl ⟨rfl, ht.symm⟩
  · have e : E (len - 1) = t := by rw [topK, if_neg h0] at ht; exact ht
    refine .inr ⟨by omega, fun i hi => ?_, e, by rw [← e]; exact (h (len - 1) (by omega)).2.2⟩
    obtain ⟨g1, g2, g3⟩ := h i hi
    have hz := topK_nonneg (m := IntKind.i64.wrap (t - 16)) (E := E) (k := i) (fun j hj => h j (by omega))
    rintro (a | a | ⟨a, b⟩)
    · omega
    · omega
    · rw [topK, if_neg (by omega)] at g1; omega
theorem wok_seen {t : Int} {len : Nat} {E : Nat → Int} (h : WOk t len E) : seenK E len = LE E len := by
  obtain ⟨h1, h2⟩ := wok_good h
  by_cases h0 : len = 0
  · subst h0; rfl
  · have hz := topK_nonneg h1
    have hl := (h1 (len - 1) (by omega)).2.2
    have e : E (len - 1) = t := by rw [topK, if_neg h0] at h2; exact h2
    have hw : IntKind.i64.wrap (t - 16) = t - 16 := by rw [IntKind.wrap_i64]; omega
    refine seen_all h1 fun i hi => ?_
    rw [h2]
    have := (h1 i hi).2.1
    rw [hw] at this
    exact this
end Go.Proofs.YtefmmopkikpnhaaGreatDoor

namespace Go.Proofs.YtefmmopkikpnhaaGreatDoor
open Go.RowKit Go.LatT Go.BlockM Go.OpnT Go.WinMath
set_option linter.unusedVariables false
set_option linter.unusedSimpArgs false
/-- What reading a window leaves. -/
def TrailPost (t : Int) (len : Nat) (E : Nat → Int) (w : World) (e : Ending) (w' : World) : Prop :=
  ∃ (T : Int) (c : Nat) (v : Bool), e = .returned (.tuple #[.agg #[.int .i64 T, .int .u16 (c : Int)], .bool v]) ∧ (v = true ↔ WOk t len E) ∧ (v = true → T = t ∧ Rep t c (LE E len)) ∧ Below w.heap.size w w'
theorem TrailPost.no {t : Int} {len : Nat} {E : Nat → Int} {w w' : World} (h : ¬ WOk t len E) (hb : Below w.heap.size w w') : TrailPost t len E w (.returned (.tuple #[.agg #[.int .i64 0, .int .u16 0], .bool false])) w' :=
  ⟨0, 0, false, rfl, Iff.intro (fun h' => nomatch h') (fun h' => absurd h' h), fun h' => (nomatch h'), hb⟩
set_option maxHeartbeats 2000000 in
set_option maxRecDepth 100000 in
theorem trailOf_some (t : Int) (bb off len cap : Nat) (E : Nat → Int) (w : World) (hlt : bb < w.heap.size) (hc : ∀ i, i < len → w.cell? ⟨bb, off + i, none⟩ = some (.int .i64 (E i))) (hl : len ≤ 1048576) :
    Calls Tryz.prog 170 #[.agg #[.int .i64 t, .slice (some ⟨bb, off, none⟩) len cap]] w (TrailPost t len E w) := by
  have HC := hid_in hc
  clear hc
  go_enter Tryz.func170, Tryz.ntmps170
  go_wp2_with fail
  have hW0 : (((w.alloc (Obj.cells #[.int .i64 t, .slice (some ⟨bb, off, none⟩) len cap] 43)).alloc (Obj.cells #[.int .i64 0, .int .u16 0] 197)).alloc (Obj.cells #[.int .i64 0, .int .u16 0] 197)).heap.size = w.heap.size + 1 + 1 + 1 := by simp
  have c0 : (((w.alloc (Obj.cells #[.int .i64 t, .slice (some ⟨bb, off, none⟩) len cap] 43)).alloc (Obj.cells #[.int .i64 0, .int .u16 0] 197)).alloc (Obj.cells #[.int .i64 0, .int .u16 0] 197)).cell? ⟨w.heap.size, 0, none⟩ = some (.int .i64 t) := by go_simp
  have c1 : (((w.alloc (Obj.cells #[.int .i64 t, .slice (some ⟨bb, off, none⟩) len cap] 43)).alloc (Obj.cells #[.int .i64 0, .int .u16 0] 197)).alloc (Obj.cells #[.int .i64 0, .int .u16 0] 197)).cell? ⟨w.heap.size + 1, 0, none⟩ = some (.int .i64 0) := by go_simp
  have c2 : (((w.alloc (Obj.cells #[.int .i64 t, .slice (some ⟨bb, off, none⟩) len cap] 43)).alloc (Obj.cells #[.int .i64 0, .int .u16 0] 197)).alloc (Obj.cells #[.int .i64 0, .int .u16 0] 197)).cell? ⟨w.heap.size + 1, 1, none⟩ = some (.int .u16 0) := by go_simp
  have c3 : (((w.alloc (Obj.cells #[.int .i64 t, .slice (some ⟨bb, off, none⟩) len cap] 43)).alloc (Obj.cells #[.int .i64 0, .int .u16 0] 197)).alloc (Obj.cells #[.int .i64 0, .int .u16 0] 197)).frozen? ⟨w.heap.size + 1, 0, none⟩ = false := by go_simp
  have c4 : (((w.alloc (Obj.cells #[.int .i64 t, .slice (some ⟨bb, off, none⟩) len cap] 43)).alloc (Obj.cells #[.int .i64 0, .int .u16 0] 197)).alloc (Obj.cells #[.int .i64 0, .int .u16 0] 197)).frozen? ⟨w.heap.size + 1, 1, none⟩ = false := by go_simp
  have c5 : Tr (((w.alloc (Obj.cells #[.int .i64 t, .slice (some ⟨bb, off, none⟩) len cap] 43)).alloc (Obj.cells #[.int .i64 0, .int .u16 0] 197)).alloc (Obj.cells #[.int .i64 0, .int .u16 0] 197)) (w.heap.size + 1 + 1) 0 0 := ⟨by go_simp, by go_simp, by go_simp, by go_simp⟩
  have z0 : Below w.heap.size w (((w.alloc (Obj.cells #[.int .i64 t, .slice (some ⟨bb, off, none⟩) len cap] 43)).alloc (Obj.cells #[.int .i64 0, .int .u16 0] 197)).alloc (Obj.cells #[.int .i64 0, .int .u16 0] 197)) := by go_grown
  generalize (((w.alloc (Obj.cells #[.int .i64 t, .slice (some ⟨bb, off, none⟩) len cap] 43)).alloc (Obj.cells #[.int .i64 0, .int .u16 0] 197)).alloc (Obj.cells #[.int .i64 0, .int .u16 0] 197)) = W at *
  obtain ⟨m, hm⟩ : ∃ m, IntKind.i64.wrap (t - 16) = m := ⟨_, rfl⟩
  have HM := hid_in hm; have HZ := hid_in z0
  clear hm z0
  have C0 := hid_in c0; have C1 := hid_in c1; have C2 := hid_in c2; have C3 := hid_in c3; have C4 := hid_in c4; have C5 := hid_in c5; have HS := hid_in hW0
  clear c0 c1 c2 c3 c4 c5 hW0
  go_loopw [10] (fun v wr => ∃ k : Nat, k ≤ len ∧ v = .int .i64 (k : Int) ∧ Hid (Mv (w.heap.size + 1 + 1) W wr ∧ wr.heap.size = W.heap.size ∧ (∃ c, Tr wr (w.heap.size + 1 + 1) (topK E k) c ∧ Rep (topK E k) c (seenK E k)) ∧ ∀ i, i < k → goodK m E i)) (fun v _ => len - (intOf v).toNat)
  case atStart => exact ⟨0, Nat.zero_le _, rfl, by show _ ∧ _; exact ⟨Mv.refl _ _, rfl, ⟨0, C5.out, rep_nil⟩, fun i hi => by omega⟩⟩
  case round =>
    obtain ⟨k, hk, rfl, HW⟩ := hrel
    obtain ⟨hM, hsz, ⟨c, hTr, hRep⟩, hgood⟩ := HW.out
    have hW := HS.out
    have q0 := (hM.cell w.heap.size 0 (by omega) (by omega)).trans C0.out
    have q1 := (hM.cell (w.heap.size + 1) 0 (by omega) (by omega)).trans C1.out
    have q2 := (hM.cell (w.heap.size + 1) 1 (by omega) (by omega)).trans C2.out
    have q3 := (hM.frozen (w.heap.size + 1) 0 (by omega) (by omega)).trans C3.out
    have q4 := (hM.frozen (w.heap.size + 1) 1 (by omega) (by omega)).trans C4.out
    have r0 := hTr.c0
    have r1 := hTr.c1
    have hbW : Below w.heap.size w wr := HZ.out.trans (hM.below (by omega) (by omega))
    have hm := HM.out
    have hnn := topK_nonneg hgood
    have MM := hid_in hM; have TR := hid_in hTr; have RR := hid_in hRep; have GG := hid_in hgood; have BB := hid_in hbW; have SZ := hid_in hsz
    by_cases hlt' : k < len
    · have hd : (k : Int) < (len : Int) := by omega
      have g0 := (hM.cell bb (off + k) (by omega) (by omega)).trans (((bcell HZ.out).1 bb _ hlt).trans (HC.out k hlt'))
      clear hM hsz hTr hRep hgood hW hbW
      have endBad : Hid (¬ goodK m E k → ¬ WOk t len E) := by
        show _ → _
        intro hbad hok
        exact hbad (by rw [← HM.out]; exact (wok_good hok).1 k hlt')
      by_cases hA : E k ≤ topK E k
      · go_wp2_with fail
        exact bodyPost_ret (v := .tuple #[.agg #[.int .i64 0, .int .u16 0], .bool false]) (by simp [results, Tryz.results170, go_sem, q1, q2]) rfl (TrailPost.no (endBad.out (fun h => by have := h.1; omega)) ((BB.out.setCell (by simp) _).setCell (by simp) _))
      · have hA' : decide (E k ≤ topK E k) = false := by simp; omega
        by_cases hB : E k ≤ m
        · go_wp2_with fail
          exact bodyPost_ret (v := .tuple #[.agg #[.int .i64 0, .int .u16 0], .bool false]) (by simp [results, Tryz.results170, go_sem, q1, q2]) rfl (TrailPost.no (endBad.out (fun h => by have := h.2.1; omega)) ((BB.out.setCell (by simp) _).setCell (by simp) _))
        · have hB' : decide (E k ≤ m) = false := by simp; omega
          go_wp2_with fail
          refine (see_any (w.heap.size + 1 + 1) (topK E k) (E k) c (seenK E k) wr TR.out RR.out).mono ?_
          rintro e w1 ⟨c', rfl, T1, R1, M1, S1⟩
          have hsz1 := S1.trans SZ.out
          have hs3 := HS.out
          have z1 : w1.cell? ⟨w.heap.size + 1, 0, none⟩ = some (.int .i64 0) := (M1.cell (w.heap.size + 1) 0 (by rw [SZ.out]; omega) (by omega)).trans q1
          have z2 : w1.cell? ⟨w.heap.size + 1, 1, none⟩ = some (.int .u16 0) := (M1.cell (w.heap.size + 1) 1 (by rw [SZ.out]; omega) (by omega)).trans q2
          have z3 : w1.frozen? ⟨w.heap.size + 1, 0, none⟩ = false := (M1.frozen (w.heap.size + 1) 0 (by rw [SZ.out]; omega) (by omega)).trans q3
          have z4 : w1.frozen? ⟨w.heap.size + 1, 1, none⟩ = false := (M1.frozen (w.heap.size + 1) 1 (by rw [SZ.out]; omega) (by omega)).trans q4
          have b1 : Below w.heap.size w w1 := BB.out.trans (M1.below (by rw [SZ.out]; omega) (by omega))
          have B1 := hid_in b1; have TT := hid_in T1; have R1' := hid_in R1; have M1' := hid_in (MM.out.trans M1); have S1' := hid_in hsz1
          clear b1 T1 R1 M1 hsz1 hs3 S1 q0 q1 q2 q3 q4 g0 r0 r1
          by_cases hE : E k ≤ 1000000
          · have hg : goodK m E k := ⟨by omega, by omega, hE⟩
            obtain ⟨x1, x2⟩ := code_good GG.out RR.out hg
            have X2 := hid_in x2; have HG := hid_in hg
            clear x2 hg
            rw [x1]
            clear x1
            go_wp2_with fail
            refine ⟨⟨k + 1, by omega, by simp, ?_⟩, by simp [intOf]; omega⟩
            show _ ∧ _
            refine ⟨M1'.out, S1'.out, ⟨c', by rw [← X2.out]; exact TT.out, ?_⟩, fun i hi => ?_⟩
            · have := R1'.out
              rw [X2.out] at this
              exact this
            · by_cases hik : i < k
              · exact GG.out i hik
              · rw [show i = k by omega]; exact HG.out
          · have x1 : codeL (topK E k) (seenK E k) (E k) = 1 := by unfold codeL; rw [if_pos (.inr (by omega))]
            rw [x1]
            clear x1
            go_wp2_with fail
            exact bodyPost_ret (v := .tuple #[.agg #[.int .i64 0, .int .u16 0], .bool false]) (by simp [results, Tryz.results170, go_sem, z1, z2]) rfl (TrailPost.no (endBad.out (fun h => by have := h.2.2; omega)) ((B1.out.setCell (by simp) _).setCell (by simp) _))
    · have hd : decide ((k : Int) < (len : Int)) = false := by simp; omega
      have e : k = len := by omega
      subst e
      clear hM hsz hTr hRep hgood hW hbW
      go_wp2_with fail
      go_region
      go_wp2_with fail
      exact bodyPost_ret (v := .tuple #[.agg #[.int .i64 (topK E k), .int .u16 (c : Int)], .bool (topK E k == t)]) (by simp [results, Tryz.results170, go_sem, q1, q2]) rfl
        ⟨_, c, _, rfl, by
          constructor
          · intro h; exact good_wok (by rw [HM.out]; exact GG.out) (by simpa using h)
          · intro h; have := (wok_good h).2; simpa using this, by
          intro h
          have e1 : topK E k = t := by simpa using h
          refine ⟨e1, ?_⟩
          have h2 := good_wok (by rw [HM.out]; exact GG.out) e1
          have := RR.out
          rw [wok_seen h2, e1] at this
          exact this, ((BB.out.setCell (by simp) _).setCell (by simp) _).drew⟩
set_option maxHeartbeats 1000000 in
set_option maxRecDepth 100000 in
theorem trailOf_nil (t : Int) (a : Option Addr) (cap : Nat) (E : Nat → Int) (w : World) :
    Calls Tryz.prog 170 #[.agg #[.int .i64 t, .slice a 0 cap]] w (TrailPost t 0 E w) := by
  go_enter Tryz.func170, Tryz.ntmps170
  go_wp2_with fail
  refine wp_loop_rounds 1 ?_
  rw [rounds_succ]
  go_wp2_with fail
  go_region
  go_wp2_with fail
  exact bodyPost_ret (v := .tuple #[.agg #[.int .i64 0, .int .u16 0], .bool (0 == t)]) (by simp [results, Tryz.results170, go_sem]) rfl
    ⟨0, 0, _, rfl, by
      constructor
      · intro h; exact .inl ⟨rfl, by have : 0 = t := by simpa using h
                                     exact this.symm⟩
      · rintro (⟨_, rfl⟩ | ⟨h, _⟩)
        · rfl
        · omega, by
      intro h
      have : 0 = t := by simpa using h
      subst this
      exact ⟨rfl, rep_nil⟩, by go_grown⟩
theorem trailOf_any (t : Int) (a : Option Addr) (len cap : Nat) (E : Nat → Int) (w : World) (hT : Ints w a len E) (hl : len ≤ 1048576) :
    Calls Tryz.prog 170 #[.agg #[.int .i64 t, .slice a len cap]] w (TrailPost t len E w) := by
  rcases hT with rfl | ⟨bb, off, rfl, h1, h2⟩
  · exact trailOf_nil t a cap E w
  · exact trailOf_some t bb off len cap E w h1 h2 hl
set_option maxHeartbeats 1000000 in
set_option maxRecDepth 100000 in
theorem windowOkI (t : Int) (a : Option Addr) (len cap : Nat) (E : Nat → Int) (w : World) (hT : Ints w a len E) (hl : len ≤ 1048576) :
    Calls Tryz.prog 127 #[.agg #[.int .i64 t, .slice a len cap]] w fun e w' => ∃ v, e = .returned (.bool v) ∧ (v = true ↔ WOk t len E) ∧ Below w.heap.size w w' := by
  have HT := hid_in hT
  clear hT
  go_enter Tryz.func127, Tryz.ntmps127
  go_wp2_with fail
  refine (trailOf_any t a len cap E _ (HT.out.later (by go_grown)) hl).mono ?_
  rintro e w1 ⟨T, c, v, rfl, h1, _, hb1⟩
  have H1 := hid_in h1; have HB := hid_in (below_later (below_box w _) hb1)
  clear h1 hb1
  go_wp2_with fail
  go_ret
  exact ⟨_, rfl, H1.out, below_later HB.out (below_box _ _)⟩
end Go.Proofs.YtefmmopkikpnhaaGreatDoor

namespace Go.Proofs.YtefmmopkikpnhaaGreatDoor
open Go.RowKit Go.LatT Go.BlockM Go.OpnT Go.WinMath
set_option linter.unusedVariables false
set_option linter.unusedSimpArgs false
/-- Keys, without what came. -/
structure SaV where
  spi : Int
  tun : Int
  key : ByteArray
  mac : ByteArray
  since : Int
  soft : Int
  hard : Int
  ticks : Int
  sent : Int
  top : Int
/-- Keys as a value. -/
@[reducible] def vSa (x : SaV) (a : Option Addr) (len cap : Nat) : Value :=
  .agg #[.int .i64 x.spi, .int .i64 x.tun, .string x.key, .string x.mac, .int .i64 x.since, .int .i64 x.soft, .int .i64 x.hard, .int .i64 x.ticks, .int .i64 x.sent, .int .i64 x.top, .slice a len cap]
def keysB (k m : ByteArray) : Bool := decide ((k.size : Int) = 16) && inB m.size 1 64
/-- What is asked of keys, but for the window. -/
def saB (x : SaV) : Bool := inB x.spi 1 999 && inB x.tun 0 3 && keysB x.key x.mac && inB x.since 0 1000000 && inB x.soft 1 x.hard && inB x.hard 1 1000000 && inB x.ticks 1 1000000 && inB x.sent 0 x.hard
set_option maxHeartbeats 400000 in
set_option maxRecDepth 100000 in
theorem l8Keys_any (k m : ByteArray) (w : World) (v : Bool) (hv : keysB k m = v) :
    Calls Tryz.prog 41 #[.string k, .string m] w fun e w' => e = .returned (.bool v) ∧ w' = w := by
  have V := hid_in hv
  clear hv
  by_cases h : (k.size : Int) = 16
  · have V2 : Hid (inB m.size 1 64 = v) := by show _ = v; rw [← V.out]; simp [keysB, h]
    go_enter Tryz.func41, Tryz.ntmps41
    go_wp2_with (go_at_call 57; refine (l1In_any _ _ _ _ _ V2.out).mono ?_; rintro e w' ⟨rfl, rfl⟩)
    go_ret
    exact ⟨rfl, rfl⟩
  · have h' : ((k.size : Int) == 16) = false := by simpa using h
    go_enter Tryz.func41, Tryz.ntmps41
    go_wp2_with fail
    go_ret
    exact ⟨ret_bool (by rw [← V.out]; simp [keysB, h]), rfl⟩
set_option maxHeartbeats 400000 in
set_option maxRecDepth 100000 in
theorem keysOk_any (k m : ByteArray) (w : World) (v : Bool) (hv : keysB k m = v) :
    Calls Tryz.prog 46 #[.string k, .string m] w fun e w' => e = .returned (.bool v) ∧ Below w.heap.size w w' := by
  have V := hid_in hv
  clear hv
  by_cases h : (k.size : Int) = 16
  · have V2 : Hid (inB m.size 1 64 = v) := by show _ = v; rw [← V.out]; simp [keysB, h]
    go_enter Tryz.func46, Tryz.ntmps46
    go_wp2_with fail
    refine (rhas_any 1 64 _ _ _ V2.out).mono ?_
    rintro e w1 ⟨rfl, hb1⟩
    go_wp2_with fail
    go_ret
    exact ⟨rfl, hb1⟩
  · have h' : ((k.size : Int) == 16) = false := by simpa using h
    go_enter Tryz.func46, Tryz.ntmps46
    go_wp2_with fail
    go_ret
    exact ⟨ret_bool (by rw [← V.out]; simp [keysB, h]), Below.refl _ _⟩
theorem sa_no {x : SaV} {p : Prop} (h : saB x = false) : (false = true ↔ saB x = true ∧ p) := by rw [h]; simp
theorem sa_win {x : SaV} {p : Prop} {v : Bool} (h : saB x = true) (hv : v = true ↔ p) : (v = true ↔ saB x = true ∧ p) := by rw [h]; simp [hv]
set_option maxHeartbeats 2000000 in
set_option maxRecDepth 100000 in
theorem saOkS (x : SaV) (a : Option Addr) (len cap : Nat) (E : Nat → Int) (w : World) (hT : Ints w a len E) (hl : len ≤ 1048576) :
    Calls Tryz.prog 37 #[vSa x a len cap] w fun e w' => ∃ v, e = .returned (.bool v) ∧ (v = true ↔ saB x = true ∧ WOk x.top len E) ∧ Below w.heap.size w w' := by
  have HT := hid_in hT
  clear hT
  obtain ⟨c0, h0⟩ : ∃ c, inB x.spi 1 999 = c := ⟨_, rfl⟩
  have C0 := hid_in h0
  clear h0
  obtain ⟨c1, h1⟩ : ∃ c, inB x.tun 0 3 = c := ⟨_, rfl⟩
  have C1 := hid_in h1
  clear h1
  obtain ⟨c2, h2⟩ : ∃ c, keysB x.key x.mac = c := ⟨_, rfl⟩
  have C2 := hid_in h2
  clear h2
  obtain ⟨c3, h3⟩ : ∃ c, inB x.since 0 1000000 = c := ⟨_, rfl⟩
  have C3 := hid_in h3
  clear h3
  obtain ⟨c4, h4⟩ : ∃ c, inB x.soft 1 x.hard = c := ⟨_, rfl⟩
  have C4 := hid_in h4
  clear h4
  obtain ⟨c5, h5⟩ : ∃ c, inB x.hard 1 1000000 = c := ⟨_, rfl⟩
  have C5 := hid_in h5
  clear h5
  obtain ⟨c6, h6⟩ : ∃ c, inB x.ticks 1 1000000 = c := ⟨_, rfl⟩
  have C6 := hid_in h6
  clear h6
  obtain ⟨c7, h7⟩ : ∃ c, inB x.sent 0 x.hard = c := ⟨_, rfl⟩
  have C7 := hid_in h7
  clear h7
  go_enter Tryz.func37, Tryz.ntmps37
  go_wp2_with fail
  refine (l1In_any x.spi 1 999 _ _ C0.out).mono ?_
  rintro e w' ⟨rfl, rfl⟩
  cases c0
  · go_wp2_with fail
    go_ret
    exact ⟨_, rfl, sa_no (by simp [saB, C0.out]), by go_grown⟩
  go_wp2_with fail
  refine (l1In_any x.tun 0 3 _ _ C1.out).mono ?_
  rintro e w' ⟨rfl, rfl⟩
  cases c1
  · go_wp2_with fail
    go_ret
    exact ⟨_, rfl, sa_no (by simp [saB, C1.out]), by go_grown⟩
  go_wp2_with fail
  refine (l8Keys_any x.key x.mac _ _ C2.out).mono ?_
  rintro e w' ⟨rfl, rfl⟩
  cases c2
  · go_wp2_with fail
    go_ret
    exact ⟨_, rfl, sa_no (by simp [saB, C2.out]), by go_grown⟩
  go_wp2_with fail
  refine (l1In_any x.since 0 1000000 _ _ C3.out).mono ?_
  rintro e w' ⟨rfl, rfl⟩
  cases c3
  · go_wp2_with fail
    go_ret
    exact ⟨_, rfl, sa_no (by simp [saB, C3.out]), by go_grown⟩
  go_wp2_with fail
  refine (l1In_any x.soft 1 x.hard _ _ C4.out).mono ?_
  rintro e w' ⟨rfl, rfl⟩
  cases c4
  · go_wp2_with fail
    go_ret
    exact ⟨_, rfl, sa_no (by simp [saB, C4.out]), by go_grown⟩
  go_wp2_with fail
  refine (l1In_any x.hard 1 1000000 _ _ C5.out).mono ?_
  rintro e w' ⟨rfl, rfl⟩
  cases c5
  · go_wp2_with fail
    go_ret
    exact ⟨_, rfl, sa_no (by simp [saB, C5.out]), by go_grown⟩
  go_wp2_with fail
  refine (l1In_any x.ticks 1 1000000 _ _ C6.out).mono ?_
  rintro e w' ⟨rfl, rfl⟩
  cases c6
  · go_wp2_with fail
    go_ret
    exact ⟨_, rfl, sa_no (by simp [saB, C6.out]), by go_grown⟩
  go_wp2_with fail
  refine (l1In_any x.sent 0 x.hard _ _ C7.out).mono ?_
  rintro e w' ⟨rfl, rfl⟩
  cases c7
  · go_wp2_with fail
    go_ret
    exact ⟨_, rfl, sa_no (by simp [saB, C7.out]), by go_grown⟩
  go_wp2_with fail
  refine (windowOkS x.top a len cap E _ (HT.out.later (by go_grown)) hl).mono ?_
  rintro e w1 ⟨v, rfl, hv, hb1⟩
  go_wp2_with fail
  go_ret
  exact ⟨_, rfl, sa_win (by simp [saB, C0.out, C1.out, C2.out, C3.out, C4.out, C5.out, C6.out, C7.out]) hv, below_later (by go_grown) hb1⟩
end Go.Proofs.YtefmmopkikpnhaaGreatDoor

