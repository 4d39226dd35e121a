/- Windows that are marked, held against marks, and held against each other. The conditions stand at each theorem. -/
import Derived.Test.YtlfeedbnjhhmiaaMrkA
import Derived.Test.YtlfeedbnjhhmiaaWinE
namespace Go.Proofs.Ytlfeedbnjhhmiaa
open Go.RowKit Go.LatT Go.BlockM Go.OpnT Go.WinMath
set_option linter.unusedVariables false
set_option linter.unusedSimpArgs false
theorem IRow.il {w : World} {b n : Nat} {E : Nat → Int} (h : IRow w b n E) (hn : n ≤ 1048576) : IL w (.slice (some ⟨b, 0, none⟩) n n) (LE E n) :=
  IL.of_owns (h.owns (Nat.zero_le b) (by unfold maxLen; omega)) (by simp [LE])
theorem Res.len {t n T' k' : Int} {L L' : List Int} (h : Res t n L T' L' k') : L'.length ≤ 16 := by
  rcases h with ⟨_, _, rfl, _⟩ | ⟨hw, _, rfl, _⟩
  · simp
  · obtain ⟨c, hc⟩ := wok_rep hw
    rw [LE_gE] at hc
    exact (listL_len hc).1
theorem WBox.grown {w w' : World} {g : Nat} {t : Int} {v : Value} {row : Option Nat} (h : WBox w g t v) (hg : w.grownBy w' row) (hr : row ≠ some g) : WBox w' g t v :=
  ⟨Nat.lt_of_lt_of_le h.lt hg.size, by rw [(grown_cells hg g 0 h.lt hr).1]; exact h.c0, by rw [(grown_cells hg g 1 h.lt hr).1]; exact h.c1⟩
theorem grown_box {w w' : World} {o : Obj} {row : Option Nat} (hg : (w.alloc o).grownBy w' row) : w.grownBy w' row :=
  ⟨hg.os, hg.tape, hg.output, Nat.le_trans (by simp) hg.size, fun k hk hr => (hg.block k (by simp; omega) hr).trans ((below_box w o).block k hk)⟩
theorem eqW_any (t : Int) (v1 v2 : Value) (L : List Int) (w : World) (h1 : IL w v1 L) (h2 : IL w v2 L) (hl : L.length ≤ 1048576) :
    Calls Try.prog 17 #[.agg #[.int .i64 t, v1], .agg #[.int .i64 t, v2]] w fun e w' => e = .returned (.bool true) ∧ Below w.heap.size w w' := by
  obtain ⟨a1, c1, rfl, i1⟩ := h1.ints
  obtain ⟨a2, c2, rfl, i2⟩ := h2.ints
  exact eqWindow_self t a1 a2 L.length c1 c2 (gE L) w i1 i2 hl
set_option maxHeartbeats 1000000 in
set_option maxRecDepth 100000 in
theorem markW_any (t : Int) (base : Nat) (v : Value) (L : List Int) (k : Int) (w : World) (ho : w.ownsRow base 3 1 v L.length (i64s L)) (hl : L.length ≤ 1048576) (h0 : 0 ≤ k) (h1 : k ≤ 1048576) :
    Calls Try.prog 26 #[.agg #[.int .i64 t, v], .int .i64 k] w fun e w' => e = .returned (.int .i64 (k + L.length)) ∧ w'.ownsRow base 3 1 v L.length (i64s (upFrom k L.length)) ∧ w.grownBy w' v.ownBlock := by
  have HO := hid_in ho
  obtain ⟨a, c, rfl⟩ := owns_form ho
  clear ho
  go_enter Try.func26, Try.ntmps26
  go_wp2_with fail
  refine (mark_any base _ L k _ (HO.out.alloc _) hl h0 h1).mono ?_
  rintro e w1 ⟨rfl, o1, g1⟩
  have O := hid_in o1; have G := hid_in (grown_box g1)
  clear o1 g1
  go_wp2_with fail
  go_ret
  exact ⟨rfl, O.out, G.out⟩
set_option maxHeartbeats 1000000 in
set_option maxRecDepth 100000 in
theorem heldW_any (t : Int) (base : Nat) (v : Value) (n : Nat) (k : Int) (w : World) (ho : w.ownsRow base 3 1 v n (i64s (upFrom k n))) (hl : n ≤ 1048576) (h0 : 0 ≤ k) (h1 : k ≤ 1048576) :
    Calls Try.prog 27 #[.agg #[.int .i64 t, v], .int .i64 k] w fun e w' => e = .returned (.int .i64 (k + n)) ∧ Below w.heap.size w w' := by
  have HO := hid_in ho
  obtain ⟨a, c, rfl⟩ := owns_form ho
  have hk : decide (k + (n : Int) < 0) = false := by simp; omega
  clear ho
  go_enter Try.func27, Try.ntmps27
  go_wp2_with fail
  refine (held_any base _ n k _ (HO.out.alloc _) hl h0 h1).mono ?_
  rintro e w1 ⟨rfl, hb1⟩
  have B := hid_in (below_later (below_box w _) hb1)
  clear hb1
  go_wp2_with fail
  go_ret
  exact ⟨rfl, B.out⟩
/-- What lies where, while the answers are held against each other. -/
structure WSt (w : World) (t T' : Int) (aV sv gv xv : Value) (L' GL XL : List Int) (B D X G b0 b1 b2 : Nat) (x : World) : Prop where
  z : Below w.heap.size w x
  a : WBox x B t aV
  d : WBox x D T' sv
  bx : WBox x X t xv
  g : WBox x G T' gv
  os : x.ownsRow b0 3 1 sv L'.length (i64s L')
  og : x.ownsRow b1 3 1 gv GL.length (i64s GL)
  ox : x.ownsRow b2 3 1 xv XL.length (i64s XL)
theorem WSt.later {w x y : World} {t T' : Int} {aV sv gv xv : Value} {L' GL XL : List Int} {B D X G b0 b1 b2 : Nat} (h : WSt w t T' aV sv gv xv L' GL XL B D X G b0 b1 b2 x) (hb : Below x.heap.size x y) : WSt w t T' aV sv gv xv L' GL XL B D X G b0 b1 b2 y :=
  ⟨below_later h.z hb, h.a.later hb, h.d.later hb, h.bx.later hb, h.g.later hb, owns_below h.os hb, owns_below h.og hb, owns_below h.ox hb⟩
theorem WSt.drew {w x : World} {t T' : Int} {aV sv gv xv : Value} {L' GL XL : List Int} {B D X G b0 b1 b2 : Nat} (h : WSt w t T' aV sv gv xv L' GL XL B D X G b0 b1 b2 x) : WSt w t T' aV sv gv xv L' GL XL B D X G b0 b1 b2 x.drew :=
  ⟨h.z.drew, ⟨h.a.lt, h.a.c0, h.a.c1⟩, ⟨h.d.lt, h.d.c0, h.d.c1⟩, ⟨h.bx.lt, h.bx.c0, h.bx.c1⟩, ⟨h.g.lt, h.g.c0, h.g.c1⟩, h.os, h.og, h.ox⟩
theorem WSt.markX {w x y : World} {t T' : Int} {aV sv gv xv : Value} {L' GL XL XL' : List Int} {B D X G b0 b1 b2 : Nat} (h : WSt w t T' aV sv gv xv L' GL XL B D X G b0 b1 b2 x) (hg : x.grownBy y xv.ownBlock) (ho : y.ownsRow b2 3 1 xv XL'.length (i64s XL'))
    (hw : w.heap.size ≤ b2) (hn : ∀ k, xv.ownBlock = some k → k ≠ B ∧ k ≠ D ∧ k ≠ X ∧ k ≠ G ∧ sv.ownBlock ≠ some k ∧ gv.ownBlock ≠ some k) : WSt w t T' aV sv gv xv L' GL XL' B D X G b0 b1 b2 y := by
  have z := Below.grown h.z hg h.z.size (fun k hk => Nat.le_trans hw (owns_own h.ox k hk).1)
  refine ⟨z, h.a.grown hg (fun e => (hn _ e).1 rfl), h.d.grown hg (fun e => (hn _ e).2.1 rfl), h.bx.grown hg (fun e => (hn _ e).2.2.1 rfl), h.g.grown hg (fun e => (hn _ e).2.2.2.1 rfl), h.os.kept hg ?_, h.og.kept hg ?_, ho⟩
  · cases e : sv.ownBlock with
    | none => exact .inl rfl
    | some k => exact .inr (fun e2 => (hn k e2.symm).2.2.2.2.1 e)
  · cases e : gv.ownBlock with
    | none => exact .inl rfl
    | some k => exact .inr (fun e2 => (hn k e2.symm).2.2.2.2.2 e)
theorem WSt.markG {w x y : World} {t T' : Int} {aV sv gv xv : Value} {L' GL GL' XL : List Int} {B D X G b0 b1 b2 : Nat} (h : WSt w t T' aV sv gv xv L' GL XL B D X G b0 b1 b2 x) (hg : x.grownBy y gv.ownBlock) (ho : y.ownsRow b1 3 1 gv GL'.length (i64s GL'))
    (hw : w.heap.size ≤ b1) (hn : ∀ k, gv.ownBlock = some k → k ≠ B ∧ k ≠ D ∧ k ≠ X ∧ k ≠ G ∧ sv.ownBlock ≠ some k ∧ xv.ownBlock ≠ some k) : WSt w t T' aV sv gv xv L' GL' XL B D X G b0 b1 b2 y := by
  have z := Below.grown h.z hg h.z.size (fun k hk => Nat.le_trans hw (owns_own h.og k hk).1)
  refine ⟨z, h.a.grown hg (fun e => (hn _ e).1 rfl), h.d.grown hg (fun e => (hn _ e).2.1 rfl), h.bx.grown hg (fun e => (hn _ e).2.2.1 rfl), h.g.grown hg (fun e => (hn _ e).2.2.2.1 rfl), h.os.kept hg ?_, ho, h.ox.kept hg ?_⟩
  · cases e : sv.ownBlock with
    | none => exact .inl rfl
    | some k => exact .inr (fun e2 => (hn k e2.symm).2.2.2.2.1 e)
  · cases e : xv.ownBlock with
    | none => exact .inl rfl
    | some k => exact .inr (fun e2 => (hn k e2.symm).2.2.2.2.2 e)
theorem owns_il {w : World} {base : Nat} {v : Value} {L : List Int} (h : w.ownsRow base 3 1 v L.length (i64s L)) : IL w v L := IL.of_owns h rfl
set_option maxHeartbeats 4000000 in
set_option maxRecDepth 100000 in
theorem walk_FnExactWindowSee (t : Int) (a : Option Addr) (len cap : Nat) (E : Nat → Int) (n : Int) (wn : (Lit.int .i64 n).wf = true) (w : World) (hT : Ints w a len E) (h1 : len ≤ cap) (h2 : cap ≤ maxLen) :
    Calls Try.prog 7 #[.agg #[.int .i64 t, .slice a len cap], .int .i64 n] w fun e w' => e = .returned (.bool true) ∧ Below w.heap.size w w' := by
  have HT := hid_in hT
  have hm : (len : Int) ≤ 9223372036854775807 := by unfold maxLen at h2; omega
  clear hT
  obtain ⟨n0, hn⟩ : ∃ n, (if (1048576 : Int) - len < 0 then -1 else (1048576 : Int) - len) = n := ⟨_, rfl⟩
  have HN := hid_in hn
  by_cases hlen : len ≤ 1048576
  · have hn2 : 0 ≤ n0 := by rw [← hn, if_neg (by omega)]; omega
    have hLE : (LE E len).length = len := by simp [LE]
    have HLE := hid_in hLE
    clear hn hLE
    go_enter Try.func7, Try.ntmps7
    go_wp2_with fail
    refine (szWindow_any t a len cap _ 1048576 (by omega) (by omega) hm n0 HN.out).mono ?_
    rintro e w0 ⟨rfl, hb0⟩
    have Z0 := hid_in (below_later (below_box w _) hb0)
    have B0 := (WBox.new w t (.slice a len cap) 29).later hb0
    have W0 := hid_in B0
    obtain ⟨l0, k0, k1⟩ := B0
    clear hb0
    go_wp2_with fail
    clear l0 k0 k1
    refine (toWindow_any t a len cap E _ (HT.out.later Z0.out) hlen).mono ?_
    rintro e w1 ⟨b1, rfl, lb1, r1, hb1⟩
    have Z1 := hid_in (below_later Z0.out hb1); have W1 := hid_in (W0.out.later hb1); have R1 := hid_in r1
    clear hb1 W0 Z0 r1
    go_wp2_with fail
    refine (windowSeeS t n _ (LE E len) _ (R1.out.il hlen) (by rw [HLE.out]; exact hlen)).mono ?_
    rintro e w2 ⟨T', L', k', v', rfl, o2, hb2, res2⟩
    obtain ⟨a2, c2, rfl⟩ := owns_form o2
    have hl' := res2.len
    have hs2 : ∀ k, (Value.slice a2 L'.length c2).ownBlock = some k → k < w2.heap.size := fun k hk => (owns_own o2 k hk).2
    have HS2 := hid_in hs2
    have l0' : w.heap.size ≤ w2.heap.size := by have := Z1.out.size; have := hb2.size; omega
    clear hs2
    have Z2 := hid_in (below_later Z1.out hb2); have B2 := W1.out.later hb2; have O2 := hid_in o2; have RES := hid_in res2
    have W2 := hid_in B2
    obtain ⟨l0, k0, k1⟩ := B2
    clear hb2 W1 Z1 R1 o2 res2
    go_wp2_with fail
    clear l0 k0 k1
    refine (toWindow_any t a len cap E _ (HT.out.later (below_later Z2.out (below_box _ _))) hlen).mono ?_
    rintro e w3 ⟨b3, rfl, lb3, r3, hb3⟩
    have hb23 := below_later (below_box w2 _) hb3
    have Z3 := hid_in (below_later Z2.out hb23); have W3 := hid_in (W2.out.later hb23); have D3 := hid_in ((WBox.new w2 T' (.slice a2 L'.length c2) 32).later hb3)
    have O3 := hid_in (owns_below O2.out hb23); have R3 := hid_in r3
    have lb3' : w2.heap.size + 1 ≤ b3 := by simp at lb3; omega
    have n3 : w2.heap.size + 1 ≤ w3.heap.size := by have := hb3.size; simp at this; omega
    clear hb3 hb23 Z2 W2 O2 r3 lb3
    go_wp2_with fail
    refine (windowSeeI t n _ (LE E len) _ ((R3.out.il hlen).later (below_box _ _)) (by rw [HLE.out]; exact hlen)).mono ?_
    rintro e w4 ⟨T4, L4, k4, v4, rfl, o4, hb4, res4⟩
    obtain ⟨rfl, rfl, rfl⟩ := Res.same RES.out res4
    obtain ⟨a4, c4, rfl⟩ := owns_form o4
    have hb34 := below_later (below_box w3 _) hb4
    have Z4 := hid_in (below_later Z3.out hb34); have W4 := hid_in (W3.out.later hb34); have D4 := hid_in (D3.out.later hb34); have X4 := hid_in ((WBox.new w3 t (.slice (some ⟨b3, 0, none⟩) len len) 32).later hb4)
    have O4 := hid_in (owns_below O3.out hb34); have R4 := hid_in (R3.out.later hb34)
    have G4 := hid_in (show w4.ownsRow (w3.heap.size + 1) 3 1 (.slice a4 L'.length c4) L'.length (i64s L') by simpa using o4)
    have n4 : w3.heap.size + 1 ≤ w4.heap.size := by have := hb4.size; simp at this; omega
    have lb4 : b3 < w3.heap.size := R3.out.lt
    clear hb4 hb34 Z3 W3 D3 O3 R3 o4 res4
    have hwn : w.heap.size ≤ w2.heap.size := l0'
    have S4 : Hid (WSt w t T' (.slice a len cap) (.slice a2 L'.length c2) (.slice a4 L'.length c4) (.slice (some ⟨b3, 0, none⟩) len len) L' L' (LE E len) w.heap.size w2.heap.size w3.heap.size w4.heap.size w1.heap.size (w3.heap.size + 1) (w2.heap.size + 1) (w4.alloc (Obj.cells #[.int .i64 T', .slice a4 L'.length c4] 32))) := by
      show WSt _ _ _ _ _ _ _ _ _ _ _ _ _ _ _ _ _ _
      have hb := below_box w4 (Obj.cells #[.int .i64 T', .slice a4 L'.length c4] 32)
      exact ⟨below_later Z4.out hb, W4.out.later hb, D4.out.later hb, X4.out.later hb, WBox.new _ _ _ _, owns_below O4.out hb, owns_below G4.out hb, by have h := (R4.out.later hb).owns lb3' (by unfold maxLen; omega); rw [HLE.out]; exact h⟩
    have gb : ∀ k, (Value.slice a4 L'.length c4).ownBlock = some k → w3.heap.size + 1 ≤ k ∧ k < w4.heap.size := fun k hk => owns_own G4.out k hk
    have GB := hid_in gb
    have D4' := D4.out; have X4' := X4.out; have W4' := W4.out
    obtain ⟨l0, k0, k1⟩ := D4'
    obtain ⟨l2, k2, k3⟩ := X4'
    obtain ⟨l4, k4, k5⟩ := W4'
    go_wp2_with fail
    clear k0 k1 k2 k3 k4 k5 D4 X4 W4 O4 R4 G4 Z4 gb
    refine (eqW_any T' _ _ L' _ (owns_il S4.out.og) (owns_il S4.out.os) (by omega)).mono ?_
    rintro e w5 ⟨rfl, hb5⟩
    have S5 := hid_in (S4.out.later hb5)
    clear hb5 S4 l0 l2 l4
    obtain ⟨l0, k0, k1⟩ := S5.out.d
    obtain ⟨l2, k2, k3⟩ := S5.out.bx
    obtain ⟨l4, k4, k5⟩ := S5.out.a
    obtain ⟨l6, k6, k7⟩ := S5.out.g
    go_wp2_with fail
    go_region_held3 (fun w' => w'.cell? ⟨w.heap.size, 0, none⟩ = some (.int .i64 t) ∧ w'.cell? ⟨w.heap.size, 1, none⟩ = some (.slice a len cap) ∧ w'.cell? ⟨w3.heap.size, 0, none⟩ = some (.int .i64 t) ∧ w'.cell? ⟨w3.heap.size, 1, none⟩ = some (.slice (some ⟨b3, 0, none⟩) len len)) (go_keep) (first | (go_at_call 15; refine (toWindow_any t a len cap E _ (HT.out.later S5.out.drew.z) hlen).mono ?_; rintro e w6 ⟨b6, rfl, lb6, r6, hb6⟩; have S6 := hid_in (S5.out.drew.later hb6); have u0 := S6.out.a.c0; have u1 := S6.out.a.c1; have u2 := S6.out.bx.c0; have u3 := S6.out.bx.c1; have Q6 := hid_in r6; clear hb6 r6) | (go_at_call 17; refine (eqW_any t _ _ (LE E len) _ (IL.of_owns S6.out.ox (by simp [LE])) (Q6.out.il hlen) (by rw [HLE.out]; exact hlen)).mono ?_; rintro e w7 ⟨rfl, hb7⟩; have S7 := hid_in (S6.out.later hb7); have u0 := S7.out.a.c0; have u1 := S7.out.a.c1; have u2 := S7.out.bx.c0; have u3 := S7.out.bx.c1; clear hb7))
    clear k0 k1 k2 k3 k4 k5 k6 k7 l0 l2 l4 l6 S5 S6 u0 u1 u2 u3
    obtain ⟨l0, k0, k1⟩ := S7.out.d
    obtain ⟨l2, k2, k3⟩ := S7.out.bx
    obtain ⟨l4, k4, k5⟩ := S7.out.a
    obtain ⟨l6, k6, k7⟩ := S7.out.g
    have hp1 : decide (1 + ((LE E len).length : Int) < 0) = false := by simp; omega
    have hp2 : decide (1 + (L'.length : Int) < 0) = false := by simp; omega
    go_wp2_with fail
    clear k0 k1 k2 k3 k4 k5 k6 k7 l0 l2 l4 l6
    refine (markW_any t (w2.heap.size + 1) _ (LE E len) 1 _ S7.out.ox (by rw [HLE.out]; exact hlen) (by omega) (by omega)).mono ?_
    rintro e w8 ⟨rfl, o8, g8⟩
    have S8 := hid_in (S7.out.markX (XL' := upFrom 1 (LE E len).length) g8 (by rw [upFrom_len]; exact o8) (by omega) (fun k hk => by have h : b3 = k := Option.some.inj hk; subst h; exact ⟨by omega, by omega, by omega, by omega, fun e => by have := HS2.out _ e; omega, fun e => by have := GB.out _ e; omega⟩))
    clear S7 o8 g8
    obtain ⟨l0, k0, k1⟩ := S8.out.d
    obtain ⟨l2, k2, k3⟩ := S8.out.bx
    obtain ⟨l4, k4, k5⟩ := S8.out.a
    obtain ⟨l6, k6, k7⟩ := S8.out.g
    go_wp2_with fail
    clear k0 k1 k2 k3 k4 k5 k6 k7 l0 l2 l4 l6
    refine (eqW_any T' _ _ L' _ (owns_il S8.out.og) (owns_il S8.out.os) (by omega)).mono ?_
    rintro e w9 ⟨rfl, hb9⟩
    have S9 := hid_in (S8.out.later hb9)
    clear hb9 S8
    obtain ⟨l0, k0, k1⟩ := S9.out.d
    obtain ⟨l2, k2, k3⟩ := S9.out.bx
    obtain ⟨l4, k4, k5⟩ := S9.out.a
    obtain ⟨l6, k6, k7⟩ := S9.out.g
    go_wp2_with fail
    clear k0 k1 k2 k3 k4 k5 k6 k7 l0 l2 l4 l6
    refine (markW_any T' (w3.heap.size + 1) _ L' 1 _ S9.out.og (by omega) (by omega) (by omega)).mono ?_
    rintro e w10 ⟨rfl, o10, g10⟩
    have S10 := hid_in (S9.out.markG (GL' := upFrom 1 L'.length) g10 (by rw [upFrom_len]; exact o10) (by omega) (fun k hk => by have := GB.out k hk; exact ⟨by omega, by omega, by omega, by omega, fun e => by have := HS2.out _ e; omega, fun e => by have h : b3 = k := Option.some.inj e; omega⟩))
    clear S9 o10 g10
    obtain ⟨l0, k0, k1⟩ := S10.out.d
    obtain ⟨l2, k2, k3⟩ := S10.out.bx
    obtain ⟨l4, k4, k5⟩ := S10.out.a
    obtain ⟨l6, k6, k7⟩ := S10.out.g
    go_wp2_with fail
    clear k0 k1 k2 k3 k4 k5 k6 k7 l0 l2 l4 l6
    refine (heldW_any T' (w3.heap.size + 1) _ L'.length 1 _ (by have h := S10.out.og; rw [upFrom_len] at h; exact h) (by omega) (by omega) (by omega)).mono ?_
    rintro e w11 ⟨rfl, hb11⟩
    have S11 := hid_in (S10.out.later hb11)
    clear hb11 S10
    obtain ⟨l0, k0, k1⟩ := S11.out.d
    obtain ⟨l2, k2, k3⟩ := S11.out.bx
    obtain ⟨l4, k4, k5⟩ := S11.out.a
    obtain ⟨l6, k6, k7⟩ := S11.out.g
    go_wp2_with fail
    clear k0 k1 k2 k3 k4 k5 k6 k7 l0 l2 l4 l6
    refine (toWindow_any t a len cap E _ (HT.out.later S11.out.z) hlen).mono ?_
    rintro e w12 ⟨b12, rfl, lb12, r12, hb12⟩
    have S12 := hid_in (S11.out.later hb12); have R12 := hid_in r12
    clear hb12 r12 S11
    go_wp2_with fail
    refine (windowSeeI t n _ (LE E len) _ (R12.out.il hlen) (by rw [HLE.out]; exact hlen)).mono ?_
    rintro e w13 ⟨T5, L5, k13, v13, rfl, o13, hb13, res13⟩
    obtain ⟨rfl, rfl, rfl⟩ := Res.same RES.out res13
    obtain ⟨a13, c13, rfl⟩ := owns_form o13
    have S13 := hid_in (S12.out.later hb13); have O13 := hid_in o13
    clear hb13 o13 res13 S12 R12
    obtain ⟨l0, k0, k1⟩ := S13.out.d
    obtain ⟨l2, k2, k3⟩ := S13.out.bx
    obtain ⟨l4, k4, k5⟩ := S13.out.a
    obtain ⟨l6, k6, k7⟩ := S13.out.g
    go_wp2_with fail
    clear k0 k1 k2 k3 k4 k5 k6 k7 l0 l2 l4 l6
    have S14 := hid_in (S13.out.later (below_box _ (Obj.cells #[.int .i64 T', .slice a13 L'.length c13] 32)))
    refine (eqW_any T' _ _ L' _ ((owns_il O13.out).later (below_box _ _)) (owns_il S14.out.os) (by omega)).mono ?_
    rintro e w15 ⟨rfl, hb15⟩
    have S15 := hid_in (S14.out.later hb15)
    clear hb15 S14 S13 O13
    obtain ⟨l0, k0, k1⟩ := S15.out.d
    obtain ⟨l2, k2, k3⟩ := S15.out.bx
    obtain ⟨l4, k4, k5⟩ := S15.out.a
    obtain ⟨l6, k6, k7⟩ := S15.out.g
    go_wp2_with fail
    clear k0 k1 k2 k3 k4 k5 k6 k7 l0 l2 l4 l6
    refine (heldW_any T' (w3.heap.size + 1) _ L'.length 1 _ (by have h := S15.out.og; rw [upFrom_len] at h; exact h) (by omega) (by omega) (by omega)).mono ?_
    rintro e w16 ⟨rfl, hb16⟩
    have S16 := hid_in (S15.out.later hb16)
    clear hb16 S15
    go_wp2_with fail
    go_ret
    exact ⟨rfl, S16.out.z⟩
  · have hn2 : n0 < 0 := by rw [← hn, if_pos (by omega)]; omega
    clear hn
    go_enter Try.func7, Try.ntmps7
    go_wp2_with fail
    refine (szWindow_any t a len cap _ 1048576 (by omega) (by omega) hm n0 HN.out).mono ?_
    rintro e w0 ⟨rfl, hb0⟩
    have Z0 := hid_in (below_later (below_box w _) hb0)
    clear hb0
    go_wp2_with fail
    go_ret
    exact ⟨rfl, Z0.out⟩
end Go.Proofs.Ytlfeedbnjhhmiaa
