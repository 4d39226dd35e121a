/- Lists of words that a function makes, and the words of a block in the specification, as contracts. The conditions stand at each theorem. -/
import Derived.Test.YtgamakiejaeeeaaDoorShaA
import Derived.Test.YtgamakiejaeeeaaDoorApdK
namespace Go.Proofs.YtgamakiejaeeeaaDoor
open Go.RowKit Go.LatT Go.BlockM Go.PlainAid Go.OpnT Go.ApdG Go.BytM Go.AesM
set_option linter.unusedVariables false
set_option linter.unusedSimpArgs false
/-- n words as cells. -/
def uC (n : Nat) (f : Nat → Nat) : List Value := (List.range n).map fun i => .int .u32 (f i : Int)
theorem uC_len (n : Nat) (f : Nat → Nat) : (uC n f).length = n := by simp [uC]
theorem uC_get (n : Nat) (f : Nat → Nat) (i : Nat) (h : i < n) : (uC n f)[i]? = some (.int .u32 (f i : Int)) := by simp [uC, h]
theorem uC_succ (n : Nat) (f : Nat → Nat) : uC (n + 1) f = uC n f ++ [.int .u32 (f n : Int)] := by simp [uC, List.range_succ]
theorem uC_congr {n : Nat} {f g : Nat → Nat} (h : ∀ i, i < n → f i = g i) : uC n f = uC n g := by
  unfold uC
  apply List.map_congr_left
  intro i hi
  rw [h i (List.mem_range.1 hi)]
theorem elemU : ElemT Tryd.prog 45 44 1 (.int .u32 0) := ElemT.mk' (b := 4) Tryd.underlying45 (by kernel_rfl) rfl (by decide) (by decide)
/-- Words that lie in a row. -/
structure UR (W : World) (g n : Nat) (f : Nat → Nat) : Prop where
  lt : g < W.heap.size
  cell : ∀ i, i < n → W.cell? ⟨g, i, none⟩ = some (.int .u32 (f i : Int))
theorem UR.at {W W' : World} {B g n : Nat} {f : Nat → Nat} (h : UR W g n f) (hb : Below B W W') (hg : g < B) : UR W' g n f :=
  ⟨Nat.lt_of_lt_of_le h.lt hb.size, fun i hi => (hb.cell (p := ⟨g, i, none⟩) hg).trans (h.cell i hi)⟩
/-- Bytes that lie in a row, from somewhere on. -/
structure BR (W : World) (g o n : Nat) (f : Nat → Nat) : Prop where
  lt : g < W.heap.size
  cell : ∀ i, i < n → W.cell? ⟨g, o + i, none⟩ = some (.int .u8 (f i : Int))
theorem BR.at {W W' : World} {B g o n : Nat} {f : Nat → Nat} (h : BR W g o n f) (hb : Below B W W') (hg : g < B) : BR W' g o n f :=
  ⟨Nat.lt_of_lt_of_le h.lt hb.size, fun i hi => (hb.cell (p := ⟨g, o + i, none⟩) hg).trans (h.cell i hi)⟩
/-- A list of words that the call owns. -/
def OU (W : World) (B : Nat) (v : Value) (n : Nat) (f : Nat → Nat) : Prop := W.ownsRow B 44 1 v n (uC n f)
theorem OU.row {W : World} {B n : Nat} {v : Value} {f : Nat → Nat} (h : OU W B v n f) (hn : 0 < n) : ∃ g c, v = .slice (some ⟨g, 0, none⟩) n c ∧ n ≤ c ∧ B ≤ g ∧ UR W g n f ∧ ∀ i, W.frozen? ⟨g, i, none⟩ = false := by
  have hcells := fun g hg => World.ownsRow.cells h (g := g) hg
  have hown := h
  obtain ⟨h1, h2⟩ := h
  rcases h2 with ⟨rfl, h0⟩ | ⟨g, cap, cur, rfl, e2, e3, e4, e5, e6, e7⟩
  · omega
  · refine ⟨g, cap, rfl, e4, e2, ⟨(Array.getElem?_eq_some_iff.1 e3).1, fun i hi => ?_⟩, fun i => ?_⟩
    · have := hcells g rfl i _ (uC_get n f i hi)
      unfold Addr.add at this
      by_cases hz : i = 0
      · rw [if_pos hz] at this; rw [hz] at this ⊢; exact this
      · rw [if_neg hz, Nat.zero_add] at this; exact this
    · exact World.ownsRow.frozenAt hown i
/-- What making a list of words answers. -/
def MkU (w : World) (n : Nat) (f : Nat → Nat) (e : Ending) (w' : World) : Prop := ∃ v, e = .returned v ∧ OU w' w.heap.size v n f ∧ Below w.heap.size w w'
/-- What lies where while a list of words is made. -/
structure US (w W : World) (o : Value) (n : Nat) (f : Nat → Nat) : Prop where
  bel : Below w.heap.size w W
  own : OU W w.heap.size o n f
theorem US.next {w W W' : World} {o o' : Value} {n b : Nat} {f : Nat → Nat} {x : Obj} (h : US w W o n f) (O : W'.ownsRow w.heap.size 44 1 o' (n + 1) (uC n f ++ [.int .u32 (b : Int)])) (G : (W.alloc x).grownBy W' o.ownBlock) (e : b = f n) : US w W' o' (n + 1) f :=
  ⟨(h.bel.alloc h.bel.size _).grown G (by have := h.bel.size; simp; omega) (fun g hg => (owns_own h.own g hg).1), by subst e; unfold OU; rw [uC_succ]; exact O⟩
theorem US.nextD {w W W' : World} {o o' : Value} {n b : Nat} {f : Nat → Nat} {x : Obj} (h : US w W o n f) (O : W'.ownsRow w.heap.size 44 1 o' (n + 1) (uC n f ++ [.int .u32 (b : Int)])) (G : (W.drew.alloc x).grownBy W' o.ownBlock) (e : b = f n) : US w W' o' (n + 1) f :=
  US.next (W := W.drew) ⟨h.bel.drew, h.own⟩ O G e
theorem US.done {w W : World} {o : Value} {n : Nat} {f : Nat → Nat} (h : US w W o n f) : MkU w n f (.returned o) W := ⟨o, rfl, h.own, h.bel⟩
theorem US.make (w : World) (f : Nat → Nat) : ∃ W, (Instr.makeSlice 45 (.int .i64 0) (.int .i64 64)).run Tryd.prog w = .ok (.slice (some ⟨w.heap.size, 0, none⟩) 0 64) W ∧ US w W (.slice (some ⟨w.heap.size, 0, none⟩) 0 64) 0 f := by
  obtain ⟨i, b, hi, hz, hsz, hb, hb'⟩ := elemU.info
  obtain ⟨W, h1, h2, h3⟩ := run_make_own (P := Tryd.prog) (w := w) w.heap.size 45 44 i (.int .u32 0) 1 elemU.under hi hz hsz .i64 .i64 64 (by rw [hb]; omega) (by unfold maxLen; omega) (Nat.le_refl _)
  exact ⟨W, h1, (Below.refl _ _).grown h3 (Nat.le_refl _) (fun g hg => by simp at hg), h2⟩
theorem one_u32 (a : Int) : ∀ u ∈ [Value.int .u32 a], u.oneCell' = true := by intro u hu; simp at hu; subst hu; rfl
/-- Four bytes as a word. -/
theorem or_word (a b c d : Nat) (ha : a < 256) (hb : b < 256) (hc : c < 256) (hd : d < 256) : bits .or .u32 (bits .or .u32 (bits .or .u32 ((a : Int) * 16777216) ((b : Int) * 65536)) ((c : Int) * 256)) (d : Int) = ((((a * 256 + b) * 256 + c) * 256 + d : Nat) : Int) := by
  have h1 : bits .or .u32 ((a : Int) * 16777216) ((b : Int) * 65536) = ((a * 16777216 + b * 65536 : Nat) : Int) := by
    have := or32 (a * 16777216) (b * 65536) (by omega) (by omega)
    rw [show ((a : Int) * 16777216) = ((a * 16777216 : Nat) : Int) by omega, show ((b : Int) * 65536) = ((b * 65536 : Nat) : Int) by omega, this, show a * 16777216 = 2 ^ 24 * a by omega, Nat.two_pow_add_eq_or_of_lt (by omega : b * 65536 < 2 ^ 24)]
  have h2 : bits .or .u32 ((a * 16777216 + b * 65536 : Nat) : Int) ((c : Int) * 256) = ((a * 16777216 + b * 65536 + c * 256 : Nat) : Int) := by
    have := or32 (a * 16777216 + b * 65536) (c * 256) (by omega) (by omega)
    rw [show ((c : Int) * 256) = ((c * 256 : Nat) : Int) by omega, this, show a * 16777216 + b * 65536 = 2 ^ 16 * (a * 256 + b) by omega, Nat.two_pow_add_eq_or_of_lt (by omega : c * 256 < 2 ^ 16)]
  rw [h1, h2, or32 _ d (by omega) (by omega), show a * 16777216 + b * 65536 + c * 256 = 2 ^ 8 * ((a * 256 + b) * 256 + c) by omega, ← Nat.two_pow_add_eq_or_of_lt (by omega : d < 2 ^ 8)]
  omega
theorem or_word' (a b c d : Nat) (ha : a < 256) (hb : b < 256) (hc : c < 256) (hd : d < 256) : bits .or .u32 (bits .or .u32 (bits .or .u32 (IntKind.u32.wrap (IntKind.u32.wrap (a : Int) * 16777216)) (IntKind.u32.wrap (IntKind.u32.wrap (b : Int) * 65536))) (IntKind.u32.wrap (IntKind.u32.wrap (c : Int) * 256))) (IntKind.u32.wrap (d : Int)) = ((((a * 256 + b) * 256 + c) * 256 + d : Nat) : Int) := by
  have e : ∀ x : Int, 0 ≤ x → x < 4294967296 → IntKind.u32.wrap x = x := fun x h1 h2 => by rw [IntKind.wrap_u32]; omega
  rw [e a (by omega) (by omega), e b (by omega) (by omega), e c (by omega) (by omega), e d (by omega) (by omega), e _ (by omega) (by omega), e _ (by omega) (by omega), e _ (by omega) (by omega)]
  exact or_word a b c d ha hb hc hd
theorem US.later {w W W' : World} {o : Value} {n : Nat} {f : Nat → Nat} (h : US w W o n f) (hb : Below W.heap.size W W') : US w W' o n f := ⟨below_later h.bel hb, owns_below h.own hb⟩
theorem US.row_of {w W : World} {g n c : Nat} {f : Nat → Nat} (h : US w W (.slice (some ⟨g, 0, none⟩) n c) n f) (i : Nat) (hi : i < n) : W.cell? ⟨g, i, none⟩ = some (.int .u32 (f i : Int)) := by
  obtain ⟨g', c', e, _, _, R, _⟩ := h.own.row (by omega)
  have : g = g' := by simp at e; exact e.1
  rw [this]; exact R.cell i hi
theorem add0 (g j : Nat) : (⟨g, 0, none⟩ : Addr).add j = ⟨g, j, none⟩ := by
  unfold Addr.add
  by_cases h0 : j = 0
  · rw [if_pos h0, h0]
  · rw [if_neg h0, Nat.zero_add]
theorem wds_high (b : Nat → Nat) (i : Nat) (h : 16 ≤ i) : wds b i = (wds b (i - 16) + (rs (wds b (i - 15)) [7, 18] ^^^ (wds b (i - 15) / 8)) + wds b (i - 7) + (rs (wds b (i - 2)) [17, 19] ^^^ (wds b (i - 2) / 1024))) % 4294967296 := by
  rw [wds, if_neg (by omega), dif_pos h]
theorem wds_low (b : Nat → Nat) (i : Nat) (h : i < 16) : wds b i = ((b (4 * i) * 256 + b (4 * i + 1)) * 256 + b (4 * i + 2)) * 256 + b (4 * i + 3) := by rw [wds, if_pos h]
theorem wds_lt {b : Nat → Nat} (hb : ∀ i, i < 64 → b i < 256) (i : Nat) : wds b i < 4294967296 := by
  by_cases h : i < 16
  · rw [wds_low b i h]
    have := hb (4 * i) (by omega); have := hb (4 * i + 1) (by omega); have := hb (4 * i + 2) (by omega); have := hb (4 * i + 3) (by omega)
    omega
  · rw [wds_high b i (by omega)]; exact Nat.mod_lt _ (by decide)
set_option maxHeartbeats 2000000 in
set_option maxRecDepth 100000 in
theorem l7Words_any (g o c : Nat) (b : Nat → Nat) (w : World) (hB : BR w g o 64 b) (hb : ∀ i, i < 64 → b i < 256) (hc : 64 ≤ c) :
    Calls Tryd.prog 29 #[.slice (some ⟨g, o, none⟩) 64 c] w fun e w' => MkU w 64 (wds b) e w' := by
  have HB := hid_in hB; have HY := hid_in hb
  have hgl := hB.lt
  clear hB hb
  go_enter Tryd.func29, Tryd.ntmps29
  go_wp2_with fail
  obtain ⟨W0, hmk, hS⟩ := US.make w (wds b)
  rw [hmk]
  have L0 := hid_in hS
  clear hS hmk
  go_wp2_with fail
  go_loopw [3, 4] (fun v u wr => ∃ k : Nat, k ≤ 16 ∧ u = .int .i64 (k : Int) ∧ Hid (US w wr v k (wds b))) (fun _ u _ => 16 - (intOf u).toNat)
  case atStart => exact ⟨0, Nat.zero_le _, rfl, L0⟩
  case round =>
    obtain ⟨k, hk, rfl, HL⟩ := hrel
    have hz := HL.out.bel.size
    by_cases hlt : k < 16
    · have HK := hid_in hlt
      have q4 : (k : Int) < 16 := by omega
      obtain ⟨x, hx⟩ : ∃ x, 4 * k = x := ⟨_, rfl⟩
      have HX := hid_in hx
      have R := HB.out.at HL.out.bel hgl
      have c0 := R.cell x (by omega)
      have c1 := R.cell (x + 1) (by omega)
      have c2 := R.cell (x + 2) (by omega)
      have c3 := R.cell (x + 3) (by omega)
      have b0 := HY.out x (by omega)
      have b1 := HY.out (x + 1) (by omega)
      have b2 := HY.out (x + 2) (by omega)
      have b3 := HY.out (x + 3) (by omega)
      obtain ⟨x1, hx1⟩ : ∃ x1, x + 1 = x1 := ⟨_, rfl⟩
      obtain ⟨x2, hx2⟩ : ∃ x2, x + 2 = x2 := ⟨_, rfl⟩
      obtain ⟨x3, hx3⟩ : ∃ x3, x + 3 = x3 := ⟨_, rfl⟩
      rw [hx1] at c1 b1
      rw [hx2] at c2 b2
      rw [hx3] at c3 b3
      have e0 : 4 * (k : Int) = (x : Int) := by omega
      have e1 : (x : Int) + 1 = (x1 : Int) := by omega
      have e2 : (x : Int) + 2 = (x2 : Int) := by omega
      have e3 : (x : Int) + 3 = (x3 : Int) := by omega
      have w0 : IntKind.i64.wrap (x : Int) = (x : Int) := by rw [IntKind.wrap_i64]; omega
      have w1 : IntKind.i64.wrap (x1 : Int) = (x1 : Int) := by rw [IntKind.wrap_i64]; omega
      have w2 : IntKind.i64.wrap (x2 : Int) = (x2 : Int) := by rw [IntKind.wrap_i64]; omega
      have w3 : IntKind.i64.wrap (x3 : Int) = (x3 : Int) := by rw [IntKind.wrap_i64]; omega
      have q0 : (x : Int) < 64 := by omega
      have q1 : (x1 : Int) < 64 := by omega
      have q2 : (x2 : Int) < 64 := by omega
      have q3 : (x3 : Int) < 64 := by omega
      have HOW := hid_in (or_word' (b x) (b x1) (b x2) (b x3) b0 b1 b2 b3)
      have HWD := hid_in (show ((b x * 256 + b x1) * 256 + b x2) * 256 + b x3 = wds b k by rw [wds_low b k hlt, hx, hx1, hx2, hx3])
      have m1 : g < wr.heap.size := by omega
      clear hx hx1 hx2 hx3 R
      generalize hA : b x = A at *
      generalize hB : b x1 = B at *
      generalize hC : b x2 = C at *
      generalize hD : b x3 = D at *
      clear hA hB hC hD
      go_wp2_with fail
      go_region_held3 (fun w' => w'.cell? ⟨g, o + x, none⟩ = some (.int .u8 (A : Int)) ∧ w'.cell? ⟨g, o + x1, none⟩ = some (.int .u8 (B : Int)) ∧ w'.cell? ⟨g, o + x2, none⟩ = some (.int .u8 (C : Int)) ∧ w'.cell? ⟨g, o + x3, none⟩ = some (.int .u8 (D : Int))) (first | go_keep | (refine ⟨?_, ?_, ?_, ?_⟩ <;> go_simp)) (first | (refine wpG1 elemU (.tmp 15) (.tmp 49) rfl w.heap.size _ k _ rfl (HL.out.own.alloc _) ⟨wr.heap.size, 0, none⟩ 1 1 [.int .u32 _] rfl rfl (cells_new _ _ _) (one_u32 _) (by omega) (by simp; omega) ?_; intro v3 w3 o3 g3 n3; have O3 := hid_in o3; have G3 := hid_in g3; have z3 := grown_below (B := w.heap.size) g3 (by simp; omega) (fun g hg => (owns_own HL.out.own g hg).1); have y0 := (z3.cell (p := ⟨g, o + x, none⟩) hgl).trans (by go_simp : _ = some (Value.int .u8 (A : Int))); have y1 := (z3.cell (p := ⟨g, o + x1, none⟩) hgl).trans (by go_simp : _ = some (Value.int .u8 (B : Int))); have y2 := (z3.cell (p := ⟨g, o + x2, none⟩) hgl).trans (by go_simp : _ = some (Value.int .u8 (C : Int))); have y3 := (z3.cell (p := ⟨g, o + x3, none⟩) hgl).trans (by go_simp : _ = some (Value.int .u8 (D : Int))); clear o3 g3 n3 z3))
      go_wp2_with fail
      refine ⟨⟨k + 1, HK.out, by simp, ?_⟩, by have := HK.out; simp [intOf]; omega⟩
      have hO := O3.out
      have hG := G3.out
      rw [HOW.out] at hO
      exact HL.out.nextD (b := ((A * 256 + B) * 256 + C) * 256 + D) hO hG HWD.out
    · have q4 : ¬ (k : Int) < 16 := by omega
      obtain rfl : k = 16 := by omega
      go_wp2_with fail
      have L1 := HL
      go_loopw [3, 5] (fun v u wr => ∃ i : Nat, 16 ≤ i ∧ i ≤ 64 ∧ u = .int .i64 (i : Int) ∧ Hid (US w wr v i (wds b))) (fun _ u _ => 64 - (intOf u).toNat)
      case atStart => exact ⟨16, by omega, by omega, rfl, L1⟩
      case round =>
        clear L0 L1 hgl HB
        obtain ⟨i, h16, hi, rfl, HI⟩ := hrel
        have hz2 := HI.out.bel.size
        by_cases hlt2 : i < 64
        · obtain ⟨g', c', rfl, hgc, hgg, R, _⟩ := HI.out.own.row (by omega)
          obtain ⟨j16, h16'⟩ : ∃ j, i - 16 = j := ⟨_, rfl⟩
          obtain ⟨j15, h15'⟩ : ∃ j, i - 15 = j := ⟨_, rfl⟩
          obtain ⟨j7, h7'⟩ : ∃ j, i - 7 = j := ⟨_, rfl⟩
          obtain ⟨j2, h2'⟩ : ∃ j, i - 2 = j := ⟨_, rfl⟩
          have HR := hid_in R
          have HII := hid_in (show 16 ≤ i + 1 ∧ i + 1 ≤ 64 by omega)
          have c15 := R.cell j15 (by omega)
          have c2 := R.cell j2 (by omega)
          have HW2 := hid_in (wds_high b i h16)
          rw [h16', h15', h7', h2'] at HW2
          have hX := wds_lt HY.out j15
          have hY := wds_lt HY.out j2
          have hA := wds_lt HY.out j16
          have hD := wds_lt HY.out j7
          have T7 := hid_in (fun W => l7Turn_any (wds b j15) 7 W hX (by omega) (by omega))
          have T18 := hid_in (fun W => l7Turn_any (wds b j15) 18 W hX (by omega) (by omega))
          have T17 := hid_in (fun W => l7Turn_any (wds b j2) 17 W hY (by omega) (by omega))
          have T19 := hid_in (fun W => l7Turn_any (wds b j2) 19 W hY (by omega) (by omega))
          have q5 : (i : Int) < 64 := by omega
          have e15 : (i : Int) - 15 = (j15 : Int) := by omega
          have e2 : (i : Int) - 2 = (j2 : Int) := by omega
          have e16 : (i : Int) - 16 = (j16 : Int) := by omega
          have e7 : (i : Int) - 7 = (j7 : Int) := by omega
          have w15 : IntKind.i64.wrap (j15 : Int) = (j15 : Int) := by rw [IntKind.wrap_i64]; omega
          have w2 : IntKind.i64.wrap (j2 : Int) = (j2 : Int) := by rw [IntKind.wrap_i64]; omega
          have w16 : IntKind.i64.wrap (j16 : Int) = (j16 : Int) := by rw [IntKind.wrap_i64]; omega
          have w7 : IntKind.i64.wrap (j7 : Int) = (j7 : Int) := by rw [IntKind.wrap_i64]; omega
          have q15 : (j15 : Int) < (i : Int) := by omega
          have q2 : (j2 : Int) < (i : Int) := by omega
          have q16 : (j16 : Int) < (i : Int) := by omega
          have q7 : (j7 : Int) < (i : Int) := by omega
          have n16 : j16 < i := by omega
          have n7 : j7 < i := by omega
          clear h16' h15' h7' h2' R
          go_wp2_with fail
          refine (T7.out _).mono ?_
          rintro e w1 ⟨rfl, hb1⟩
          have H1 := hid_in (HI.out.later hb1)
          clear hb1
          go_wp2_with fail
          refine (T18.out _).mono ?_
          rintro e w2 ⟨rfl, hb2⟩
          have H2 := hid_in (H1.out.later hb2)
          clear hb2 H1
          have r7 := rr_lt (wds b j15) 7 hX
          have r18 := rr_lt (wds b j15) 18 hX
          have r17 := rr_lt (wds b j2) 17 hY
          have r19 := rr_lt (wds b j2) 19 hY
          have u1 := xor32 _ _ r7 r18
          have u2 := xor32 (rr (wds b j15) 7 ^^^ rr (wds b j15) 18) (wds b j15 / 8) (Nat.xor_lt_two_pow (n := 32) r7 r18) (by omega)
          have u3 := xor32 _ _ r17 r19
          have u4 := xor32 (rr (wds b j2) 17 ^^^ rr (wds b j2) 19) (wds b j2 / 1024) (Nat.xor_lt_two_pow (n := 32) r17 r19) (by omega)
          go_wp2_with fail
          refine (T17.out _).mono ?_
          rintro e w3 ⟨rfl, hb3⟩
          have H3 := hid_in (H2.out.later hb3)
          clear hb3 H2
          go_wp2_with fail
          refine (T19.out _).mono ?_
          rintro e w4 ⟨rfl, hb4⟩
          have H4 := hid_in (H3.out.later hb4)
          clear hb4 H3 T7 T17 T18 T19
          go_wp2_with fail
          have k16 : w4.cell? ⟨g', j16, none⟩ = some (.int .u32 (wds b j16 : Int)) := H4.out.row_of j16 n16
          have k7 : w4.cell? ⟨g', j7, none⟩ = some (.int .u32 (wds b j7 : Int)) := H4.out.row_of j7 n7
          have hg4 : g' < w4.heap.size := (owns_own H4.out.own g' rfl).2
          have hz4 := H4.out.bel.size
          have hp2 : rr (wds b j15) 7 ^^^ rr (wds b j15) 18 ^^^ wds b j15 / 8 < 4294967296 := Nat.xor_lt_two_pow (n := 32) (Nat.xor_lt_two_pow (n := 32) r7 r18) (by omega)
          have hq2 : rr (wds b j2) 17 ^^^ rr (wds b j2) 19 ^^^ wds b j2 / 1024 < 4294967296 := Nat.xor_lt_two_pow (n := 32) (Nat.xor_lt_two_pow (n := 32) r17 r19) (by omega)
          have U2 := hid_in (show bits .xor .u32 ((rr (wds b j15) 7 ^^^ rr (wds b j15) 18 : Nat) : Int) ((wds b j15 : Int) / 8) = ((rr (wds b j15) 7 ^^^ rr (wds b j15) 18 ^^^ wds b j15 / 8 : Nat) : Int) by rw [show ((wds b j15 : Int) / 8) = ((wds b j15 / 8 : Nat) : Int) by omega]; exact xor32 _ _ (Nat.xor_lt_two_pow (n := 32) r7 r18) (by omega))
          have U4 := hid_in (show bits .xor .u32 ((rr (wds b j2) 17 ^^^ rr (wds b j2) 19 : Nat) : Int) ((wds b j2 : Int) / 1024) = ((rr (wds b j2) 17 ^^^ rr (wds b j2) 19 ^^^ wds b j2 / 1024 : Nat) : Int) by rw [show ((wds b j2 : Int) / 1024) = ((wds b j2 / 1024 : Nat) : Int) by omega]; exact xor32 _ _ (Nat.xor_lt_two_pow (n := 32) r17 r19) (by omega))
          have HV := HW2.out
          simp only [rs, List.foldl_cons, List.foldl_nil, Nat.zero_xor] at HV
          generalize rr (wds b j15) 7 ^^^ rr (wds b j15) 18 ^^^ wds b j15 / 8 = p at *
          generalize rr (wds b j2) 17 ^^^ rr (wds b j2) 19 ^^^ wds b j2 / 1024 = q at *
          have U16 := hid_in (uC_get i (wds b) j16 n16)
          have U7 := hid_in (uC_get i (wds b) j7 n7)
          generalize wds b j16 = A at *
          generalize wds b j7 = D at *
          have HVV := hid_in HV
          clear HV r7 r18 r17 r19 hX hY c15 c2
          have k16' : w4.drew.cell? ⟨g', j16, none⟩ = some (.int .u32 (A : Int)) := k16
          have k7' : w4.drew.cell? ⟨g', j7, none⟩ = some (.int .u32 (D : Int)) := k7
          go_region_held3 (fun w' => w'.cell? ⟨g', j16, none⟩ = some (.int .u32 (A : Int)) ∧ w'.cell? ⟨g', j7, none⟩ = some (.int .u32 (D : Int))) (first | go_keep | exact ⟨k16', k7'⟩ | (refine ⟨?_, ?_⟩ <;> go_simp)) (first | (refine wpK1 elemU (.tmp 81) (.tmp 97) rfl w.heap.size g' i c' _ rfl (H4.out.own.alloc _) ⟨w4.heap.size, 0, none⟩ 1 1 [.int .u32 _] rfl rfl (cells_new _ _ _) (one_u32 _) (by omega) (by simp; omega) ?_; intro v5 w5 GG; have y0 := GG.old j16 _ U16.out; have y1 := GG.old j7 _ U7.out; rw [add0] at y0 y1; have G5 := hid_in GG; clear GG))
          go_wp2_with fail
          refine ⟨⟨i + 1, HII.out.1, HII.out.2, by simp, ?_⟩, by have := HII.out; simp [intOf]; omega⟩
          have O := G5.out.own
          have Y := G5.out.by_
          rw [U2.out, U4.out] at O
          have ev : IntKind.u32.wrap (IntKind.u32.wrap (IntKind.u32.wrap ((A : Int) + (p : Int)) + (D : Int)) + (q : Int)) = ((((A + p + D + q) % 4294967296 : Nat)) : Int) := by rw [IntKind.wrap_u32, IntKind.wrap_u32, IntKind.wrap_u32]; omega
          rw [ev] at O
          exact H4.out.nextD (b := (A + p + D + q) % 4294967296) O Y HVV.out.symm
        · have q5 : ¬ (i : Int) < 64 := by omega
          obtain rfl : i = 64 := by omega
          go_wp2_with fail
          go_ret
          exact HI.out.done
end Go.Proofs.YtgamakiejaeeeaaDoor
