/- Ways as a tree, in the program, as contracts. The conditions stand at each theorem. -/
import Derived.Test.YtajkaaeckmfamaaTreM
import Derived.Test.YtajkaaeckmfamaaWayB
import Derived.Test.YtajkaaeckmfamaaApdG
import Derived.Test.YtajkaaeckmfamaaOwn
namespace Go.Proofs.Ytajkaaeckmfamaa
open Go.RowKit Go.LatT Go.BlockM Go.OpnT Go.ApdG Go.TreM
set_option linter.unusedVariables false
set_option linter.unusedSimpArgs false
theorem and1 (x : Int) (h0 : 0 ≤ x) (h1 : x < 4611686018427387904) : bits .and .i64 x 1 = x % 2 := by
  obtain ⟨A, rfl⟩ := Int.eq_ofNat_of_zero_le h0
  have e : bits .and .i64 (A : Int) 1 = ((A &&& 1 : Nat) : Int) := by
    show IntKind.i64.wrap ((BitVec.ofInt 64 (A : Int) &&& BitVec.ofInt 64 1).toNat : Int) = _
    rw [BitVec.toNat_and, ofInt_u64 A (by omega), show (BitVec.ofInt 64 1).toNat = 1 from rfl]
    have : A &&& 1 ≤ 1 := Nat.and_le_right
    exact wrap_i64_small _ (by omega) (by omega)
  rw [e, show (1 : Nat) = 2 ^ 1 - 1 from rfl, Nat.and_two_pow_sub_one_eq_mod]
  rfl
set_option maxHeartbeats 400000 in
set_option maxRecDepth 100000 in
theorem bit_any (a : Int) (p : Nat) (w : World) (a0 : 0 ≤ a) (a1 : a ≤ 4294967295) (hp : p < 32) (s : Nat) (hs : bitN a p = s) :
    Calls Try.prog 46 #[.int .i64 a, .int .i64 (p : Int)] w fun e w' => e = .returned (.int .i64 (s : Int)) ∧ w' = w := by
  have e1 : pw (31 - (p : Int)) = 2 ^ (31 - p) := by unfold pw; rw [show (31 - (p : Int)).toNat = 31 - p by omega]
  have e2 : bits .and .i64 (a / 2 ^ (31 - p)) 1 = (s : Int) := by
    have h1 : 0 ≤ a / 2 ^ (31 - p) := Int.ediv_nonneg a0 (Int.le_of_lt (Int.pow_pos (by decide)))
    have h2 : a / 2 ^ (31 - p) ≤ a := Int.ediv_le_self _ a0
    rw [and1 _ h1 (by omega), ← hs]
    unfold bitN
    rw [e1]
    omega
  have E2 := hid_in e2
  clear e1 e2 hs
  go_enter Try.func46, Try.ntmps46
  go_wp2_with fail
  rw [E2.out]
  go_ret
  exact ⟨rfl, rfl⟩
theorem elemN : ElemT Try.prog 68 67 3 (.agg #[.int .i64 0, .int .i64 0, .int .i64 0]) := ElemT.mk' (b := 24) Try.underlying68 (by kernel_rfl) rfl (by decide) (by decide)
theorem flat_set (T : Nat → Nat → Int) (k j n : Nat) (hk : k < n) (hj : j < 3) (x : Int) : (flatC T 3 n).set (k * 3 + j) (.int .i64 x) = flatC (upd T k j x) 3 n := by
  apply List.ext_getElem?
  intro m
  rw [List.getElem?_set]
  have hl := flatC_length T 3 n
  have hl2 := flatC_length (upd T k j x) 3 n
  by_cases hm : m < n * 3
  · have g1 := flatC_get (upd T k j x) 3 n (m / 3) (m % 3) (by omega) (by omega)
    have g2 := flatC_get T 3 n (m / 3) (m % 3) (by omega) (by omega)
    rw [show m / 3 * 3 + m % 3 = m by omega] at g1 g2
    by_cases he : k * 3 + j = m
    · rw [if_pos he, if_pos (by omega), g1]
      unfold upd
      rw [if_pos (by omega)]
    · rw [if_neg he, g1, g2]
      unfold upd
      rw [if_neg (by omega)]
  · rw [if_neg (by omega), List.getElem?_eq_none (by omega), List.getElem?_eq_none (by omega)]
theorem flat_lnk (T : Nat → Nat → Int) (i s n : Nat) : flatC (lnk T i s n) 3 (n + 1) = flatC (upd T i s n) 3 n ++ [.int .i64 0, .int .i64 0, .int .i64 (-1)] := by
  rw [flatC_succ]
  congr 1
  · apply flatC_congr
    intro k hk j _
    unfold lnk
    rw [if_neg (by omega)]
  · simp [lnk, List.range_succ]
/-- A tree of n nodes lies in block t, its nodes in block g. -/
structure Tr (w : World) (B t g n cap : Nat) (T : Nat → Nat → Int) : Prop where
  tb : B ≤ t
  blk : w.heap[t]? = some (.cells #[.slice (some ⟨g, 0, none⟩) n cap] 70 (0, 0))
  own : w.ownsRow B 67 3 (.slice (some ⟨g, 0, none⟩) n cap) n (flatC T 3 n)
  np : 0 < n
theorem owns_blk {w : World} {B e k g n cap : Nat} {xs : List Value} (h : w.ownsRow B e k (.slice (some ⟨g, 0, none⟩) n cap) n xs) : ∃ cur, w.heap[g]? = some (.cells cur e (0, 0)) ∧ B ≤ g := by
  rcases h.2 with ⟨h', _⟩ | ⟨g', cap', cur, h', hb, hg, _⟩
  · simp at h'
  · simp only [Value.slice.injEq, Option.some.injEq, Addr.mk.injEq, and_true, true_and] at h'
    obtain ⟨rfl, rfl⟩ := h'
    exact ⟨cur, hg, hb⟩
theorem blk_ne {w : World} {t g e e' : Nat} {c1 c2 : Array Value} (h1 : w.heap[t]? = some (.cells c1 e (0, 0))) (h2 : w.heap[g]? = some (.cells c2 e' (0, 0))) (h : e ≠ e') : t ≠ g := by
  rintro rfl
  rw [h1] at h2
  simp only [Option.some.injEq, Obj.cells.injEq] at h2
  exact h h2.2.1
section
variable {w : World} {B t g n cap : Nat} {T : Nat → Nat → Int}
theorem Tr.lt (h : Tr w B t g n cap T) : t < w.heap.size := (Array.getElem?_eq_some_iff.1 h.blk).1
theorem Tr.glt (h : Tr w B t g n cap T) : g < w.heap.size := by obtain ⟨cur, h1, _⟩ := owns_blk h.own; exact (Array.getElem?_eq_some_iff.1 h1).1
theorem Tr.gb (h : Tr w B t g n cap T) : B ≤ g := (owns_blk h.own).choose_spec.2
theorem Tr.ne (h : Tr w B t g n cap T) : t ≠ g := by obtain ⟨cur, h1, _⟩ := owns_blk h.own; exact blk_ne h.blk h1 (by decide)
theorem Tr.cell (h : Tr w B t g n cap T) (i j : Nat) (hi : i < n) (hj : j < 3) : w.cell? ⟨g, i * 3 + j, none⟩ = some (.int .i64 (T i j)) := by
  have := h.own.cells (g := g) rfl (i * 3 + j) _ (flatC_get T 3 n i j hi hj)
  unfold Addr.add at this
  by_cases hz : i * 3 + j = 0
  · rw [if_pos hz] at this
    rw [show i * 3 + j = 0 by omega]
    exact this
  · rw [if_neg hz] at this
    rw [show i * 3 + j = 0 + (i * 3 + j) by omega]
    exact this
theorem Tr.fz (h : Tr w B t g n cap T) (j : Nat) : w.frozen? ⟨g, j, none⟩ = false := h.own.frozenAt j
theorem Tr.c0 (h : Tr w B t g n cap T) : w.cell? ⟨t, 0, none⟩ = some (.slice (some ⟨g, 0, none⟩) n cap) := by rw [Lib.cell_of_heap h.blk]; rfl
theorem Tr.f0 (h : Tr w B t g n cap T) : w.frozen? ⟨t, 0, none⟩ = false := Lib.frozen_of_heap h.blk 0
theorem Tr.later {w' : World} (h : Tr w B t g n cap T) (hb : Below w.heap.size w w') : Tr w' B t g n cap T :=
  ⟨h.tb, by rw [hb.block t h.lt]; exact h.blk, owns_below h.own hb, h.np⟩
theorem Tr.set (h : Tr w B t g n cap T) (k j : Nat) (hk : k < n) (hj : j < 3) (x : Int) : Tr (w.setCell ⟨g, k * 3 + j, none⟩ (.int .i64 x)) B t g n cap (upd T k j x) := by
  refine ⟨h.tb, ?_, ?_, h.np⟩
  · rw [Below.heap_setCell _ _ _ _ (show t ≠ g from h.ne)]; exact h.blk
  · have := (h.own.stored (k * 3 + j) (.int .i64 x)).1
    rw [flat_set T k j n hk hj x] at this
    exact this
end
end Go.Proofs.Ytajkaaeckmfamaa
