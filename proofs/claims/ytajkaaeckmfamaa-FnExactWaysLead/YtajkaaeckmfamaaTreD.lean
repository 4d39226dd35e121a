/- Where an address leads by a tree, and the tree of ways, in the program, as contracts. The conditions stand at each theorem. -/
import Derived.Test.YtajkaaeckmfamaaTreC
namespace Go.Proofs.Ytajkaaeckmfamaa
open Go.RowKit Go.LatT Go.BlockM Go.OpnT Go.ApdG Go.TreM
set_option linter.unusedVariables false
set_option linter.unusedSimpArgs false
set_option maxHeartbeats 400000 in
set_option maxRecDepth 100000 in
theorem nodeHas_any (x y h : Int) (w : World) (v : Bool) (hv : (!decide (h = -1)) = v) : Calls Try.prog 37 #[.agg #[.int .i64 x, .int .i64 y, .int .i64 h]] w fun e w' => e = .returned (.bool v) ∧ Below w.heap.size w w' := by
  have V := hid_in hv
  clear hv
  go_enter Try.func37, Try.ntmps37
  go_wp2
  go_ret
  exact ⟨ret_bool (by rw [← V.out, Bool.eq_iff_iff]; simp), by go_grown⟩
theorem nd_some_le {T : Nat → Nat → Int} {a : Int} {m i k : Nat} (h : nd T a m = some i) (hk : k ≤ m) : ∃ j, nd T a k = some j := by
  cases hn : nd T a k with
  | some j => exact ⟨j, rfl⟩
  | none =>
    have := nd_none_more hn (m - k)
    rw [show k + (m - k) = m by omega, h] at this
    cases this
set_option maxHeartbeats 600000 in
set_option maxRecDepth 100000 in
theorem lead_any (B t g n cap : Nat) (T : Nat → Nat → Int) (f : Int → Nat → Int) (a : Int) (w : World) (a0 : 0 ≤ a) (a1 : a ≤ 4294967295) (hT : Tr w B t g n cap T) (hI : TreeIs T n f) :
    Calls Try.prog 19 #[.pointer (some ⟨t, 0, none⟩), .int .i64 a] w fun e w' => e = .returned (.int .i64 (ldF (f a) 33)) ∧ Below w.heap.size w w' := by
  have HT := hid_in hT; have HI := hid_in hI
  clear hT hI
  go_enter Try.func19, Try.ntmps19
  go_wp2_with fail
  refine (path_any B t g n cap T f a _ a0 a1 HT.out HI.out).mono ?_
  rintro e w1 ⟨m, g', cap', i, rfl, hP, hm, hend⟩
  have S1 := hid_in hP; have HE := hid_in hend
  clear hP hend
  go_wp2_with fail
  go_loopw [5, 12] (fun sv v wr => ∃ k : Nat, k ≤ m + 1 ∧ v = .int .i64 (k : Int) ∧ sv = .int .i64 (ldF (hopAt T a) k) ∧ Hid (PS w wr T a m g' cap' i)) (fun _ v _ => m + 1 - (intOf v).toNat)
  case atStart => exact ⟨0, Nat.zero_le _, rfl, rfl, S1⟩
  case round =>
    obtain ⟨k, hk, rfl, rfl, HS⟩ := hrel
    by_cases hlt : k < m + 1
    · have hd : (k : Int) < ((m + 1 : Nat) : Int) := by omega
      obtain ⟨j, hj⟩ := nd_some_le HS.out.pth (show k ≤ m by omega)
      have g0 : wr.cell? ⟨g', k * 3, none⟩ = _ := own_cell HS.out.own k 0 hlt (by omega)
      have g1 := own_cell HS.out.own k 1 hlt (by omega)
      have g2 := own_cell HS.out.own k 2 hlt (by omega)
      rw [rowsP_some hj] at g0 g1 g2
      have eh := hop_some hj
      have EN : Hid (ldF (hopAt T a) (k + 1) = if hopAt T a k = -1 then ldF (hopAt T a) k else hopAt T a k) := by show _ = _; rfl
      rw [eh] at EN
      generalize T j 0 = x at g0
      generalize T j 1 = y at g1
      generalize T j 2 = h at g2 EN
      clear eh
      by_cases h1 : h = -1
      · subst h1
        have EN2 : Hid (ldF (hopAt T a) (k + 1) = ldF (hopAt T a) k) := by show _ = _; rw [EN.out, if_pos rfl]
        clear EN
        go_wp2_with fail
        refine (nodeHas_any x y (-1) _ false (by simp)).mono ?_
        rintro e w2 ⟨rfl, hb2⟩
        have Z := hid_in (HS.out.later (below_later (below_box _ _) hb2))
        clear hb2
        go_wp2_with fail
        refine ⟨⟨k + 1, by omega, by simp, ?_, Z⟩, by simp [intOf]; omega⟩
        rw [EN2.out]
      · have V : Hid ((!decide (h = -1)) = true) := by show _ = _; simp [h1]
        go_wp2_with fail
        refine (nodeHas_any x y h _ true V.out).mono ?_
        rintro e w2 ⟨rfl, hb2⟩
        obtain ⟨hc2, hf2⟩ := bcell hb2
        have q2 : w2.cell? ⟨wr.heap.size, 2, none⟩ = some (.int .i64 h) := by rw [hc2 _ _ (by simp)]; go_simp
        have Z := hid_in (HS.out.later (below_later (below_box _ _) hb2))
        clear hb2 hc2 hf2
        go_wp2_with fail
        refine ⟨⟨k + 1, by omega, by simp, ?_, Z⟩, by simp [intOf]; omega⟩
        rw [EN.out, if_neg h1]
    · have hd : decide ((k : Int) < ((m + 1 : Nat) : Int)) = false := by simp; omega
      obtain rfl : k = m + 1 := by omega
      have er : Hid (ldF (hopAt T a) (m + 1) = ldF (f a) 33) := by
        show _ = _
        obtain ⟨L, I, hf⟩ := HI.out
        have e1 : ldF (hopAt T a) (m + 1 + (32 - m)) = ldF (hopAt T a) (m + 1) := ldF_skip (32 - m) (fun d h1 h2 => by
          rcases HE.out with h | h
          · omega
          · have := nd_none_more h (d - (m + 1))
            rw [show m + 1 + (d - (m + 1)) = d by omega] at this
            exact hop_none this)
        rw [← e1, show m + 1 + (32 - m) = 33 by omega]
        exact ldF_congr 33 (fun d hd => hf a a0 a1 d (by omega))
      go_wp2_with fail
      go_ret
      exact ⟨congrArg (fun z => Ending.returned (.int .i64 z)) er.out, HS.out.bel⟩
/-- What is said by the first k ways. -/
def waysF (E : Nat → Nat → Int) : Nat → Int → Nat → Int
  | 0 => fun _ _ => -1
  | k + 1 => turnF (waysF E k) (E k 0) (E k 1) (E k 2)
theorem tree_new : TreeIs (fun _ j => if j = 2 then -1 else 0) 1 (waysF (fun _ _ => 0) 0) := by
  refine ⟨fun _ => (0, 0), ⟨by omega, rfl, fun i _ s hs => .inl (by show (if s = 2 then (-1 : Int) else 0) = 0; rw [if_neg (by omega)])⟩, fun a a0 a1 d hd => ?_⟩
  cases d with
  | zero => rfl
  | succ d =>
    have h : ∀ d, nd (fun _ j => if j = 2 then (-1 : Int) else 0) a (d + 1) = none := by
      intro d
      induction d with
      | zero =>
        rw [nd_step (i := 0) rfl]
        have := bitN_lt a 0
        rw [if_pos (show (if bitN a 0 = 2 then (-1 : Int) else 0) = 0 from if_neg (by omega))]
      | succ d ih => exact nd_none ih
    exact hop_none (h d)
structure TQ (w wr : World) (t g n cap k : Nat) (T : Nat → Nat → Int) (E : Nat → Nat → Int) : Prop where
  tr : Tr wr w.heap.size t g n cap T
  is : TreeIs T n (waysF E k)
  bel : Below w.heap.size w wr
  len : n ≤ 1 + 32 * k
set_option maxHeartbeats 600000 in
set_option maxRecDepth 100000 in
theorem treeOf_some (bb off len c : Nat) (E : Nat → Nat → Int) (w : World) (hlt : bb < w.heap.size) (hc : ∀ i, i < len → ∀ j, j < 3 → w.cell? ⟨bb, off + i * 3 + j, none⟩ = some (.int .i64 (E i j))) (hl : len ≤ 1000) (hok : ∀ i, i < len → 0 ≤ E i 0 ∧ E i 0 ≤ 4294967295 ∧ 0 ≤ E i 1 ∧ E i 1 ≤ 32) :
    Calls Try.prog 18 #[.slice (some ⟨bb, off, none⟩) len c] w fun e w' => ∃ t g n cap T, e = .returned (.pointer (some ⟨t, 0, none⟩)) ∧ TQ w w' t g n cap len T E := by
  have HC := hid_in hc; have HO := hid_in hok
  clear hc hok
  have S0 : Hid (TQ w ((w.alloc (.cells #[.int .i64 0, .int .i64 0, .int .i64 (-1)] 67)).alloc (.cells #[.slice (some ⟨w.heap.size, 0, none⟩) 1 1] 70)) (w.heap.size + 1) w.heap.size 1 1 0 (fun _ j => if j = 2 then -1 else 0) E) := by
    refine ⟨⟨by omega, ?_, ?_, by omega⟩, tree_new, below_later (below_box _ _) (below_box _ _), by omega⟩
    · have h := heap_alloc_new (w.alloc (.cells #[.int .i64 0, .int .i64 0, .int .i64 (-1)] 67)) (.cells #[.slice (some ⟨w.heap.size, 0, none⟩) 1 1] 70)
      simpa using h
    · have := World.ownsRow_lit (base := w.heap.size) (e := 67) (size := 3) w #[.int .i64 0, .int .i64 0, .int .i64 (-1)] 1 (Nat.le_refl _) (by decide) rfl
      exact owns_below this (below_box _ _)
  go_enter Try.func18, Try.ntmps18
  go_wp2_with fail
  generalize ((w.alloc (.cells #[.int .i64 0, .int .i64 0, .int .i64 (-1)] 67)).alloc (.cells #[.slice (some ⟨w.heap.size, 0, none⟩) 1 1] 70)) = W0 at *
  go_loopw [12] (fun v wr => ∃ (k g n cap : Nat) (T : Nat → Nat → Int), k ≤ len ∧ v = .int .i64 (k : Int) ∧ Hid (TQ w wr (w.heap.size + 1) g n cap k T E)) (fun v _ => len - (intOf v).toNat)
  case atStart => exact ⟨0, w.heap.size, 1, 1, _, Nat.zero_le _, rfl, S0⟩
  case round =>
    obtain ⟨k, g, n, cap, T, hk, rfl, HS⟩ := hrel
    by_cases hlt' : k < len
    · have hd : (k : Int) < (len : Int) := by omega
      have hg := fun j hj => ((bcell HS.out.bel).1 bb (off + k * 3 + j) hlt).trans (HC.out k hlt' j hj)
      have g0 : wr.cell? ⟨bb, off + k * 3, none⟩ = _ := hg 0 (by omega)
      have g1 := hg 1 (by omega); have g2 := hg 2 (by omega)
      obtain ⟨a0, a1, b0, b1⟩ := HO.out k hlt'
      have ew := hid_in (show waysF E (k + 1) = turnF (waysF E k) (E k 0) (E k 1) (E k 2) from rfl)
      have T1 := hid_in (HS.out.tr.later (below_box wr (.cells #[.int .i64 (E k 0), .int .i64 (E k 1), .int .i64 (E k 2)] 37)))
      have B1 := hid_in (below_later HS.out.bel (below_box wr (.cells #[.int .i64 (E k 0), .int .i64 (E k 1), .int .i64 (E k 2)] 37)))
      generalize E k 0 = x at g0 a0 a1 ew T1 B1
      obtain ⟨y, hy⟩ := Int.eq_ofNat_of_zero_le b0
      rw [hy] at g1 b1 ew T1 B1
      generalize E k 2 = h at g2 ew T1 B1
      clear hg hy b0
      have ln := HS.out.len
      have hsz : w.heap.size ≤ wr.heap.size := HS.out.bel.size
      go_wp2_with fail
      refine (turn_any w.heap.size (w.heap.size + 1) g n cap T (waysF E k) x h y _ a0 a1 (by omega) T1.out HS.out.is (by omega) (by simp; omega)).mono ?_
      rintro e w2 ⟨rfl, ⟨g2', n2, cap2, T2, t2, i2, l2⟩, hb2⟩
      have S2 : Hid (TQ w w2 (w.heap.size + 1) g2' n2 cap2 (k + 1) T2 E) := by
        show TQ _ _ _ _ _ _ _ _ _
        exact ⟨t2, by rw [ew.out]; exact i2, B1.out.trans hb2, by omega⟩
      clear t2 i2 hb2
      go_wp2_with fail
      exact ⟨⟨k + 1, g2', n2, cap2, T2, by omega, by simp, S2⟩, by simp [intOf]; omega⟩
    · have hd : decide ((k : Int) < (len : Int)) = false := by simp; omega
      obtain rfl : k = len := by omega
      go_wp2_with fail
      go_ret
      exact ⟨_, g, n, cap, T, rfl, HS.out⟩
end Go.Proofs.Ytajkaaeckmfamaa
