/- The grid of rules, the end of a part, and cells joined, in the specification, as contracts. The conditions stand at each theorem. -/
import Derived.Test.YtdljoopioglkiaaGrdB
import Derived.Test.YtdljoopioglkiaaApdK
import Derived.Test.YtdljoopioglkiaaRegE
namespace Go.Proofs.Ytdljoopioglkiaa
open Go.RowKit Go.LatT Go.BlockM Go.OpnT Go.WinMath Go.ApdG
set_option linter.unusedVariables false
set_option linter.unusedSimpArgs false
theorem ILm.newG {B : Nat} (w : World) (G : Nat) (x : Int) (hB : B ≤ w.heap.size) (t : TypeId) (hG : G = w.heap.size) : ILm B (w.alloc (.cells #[.int .i64 x] t)) (.slice (some ⟨G, 0, none⟩) 1 1) [x] := by
  subst hG
  exact ILm.new w x hB t
theorem ILm.setL {B g o : Nat} {w : World} {v u : Value} {L : List Int} (h : ILm B w v L) (hg : g < B) : ILm B (w.setCell ⟨g, o, none⟩ u) v L := by
  obtain ⟨bb, off, cap, e, h1, h2, h5, h3, h4⟩ := h
  have hb : (w.setCell ⟨g, o, none⟩ u).heap[bb]? = w.heap[bb]? := Below.heap_setCell _ _ _ _ (show bb ≠ g by omega)
  exact ⟨bb, off, cap, e, h1, h2, h5, by simpa using h3, fun i hi => by have := h4 i hi; unfold World.cell? at this ⊢; rw [hb]; exact this⟩
/-- The edges of both, one behind the other. -/
@[reducible] def edg2 (E F : Nat → Nat → Int) (what n m : Nat) : List Int := edgW F what (edgW E what [0] n) m
theorem edgW_len (E : Nat → Nat → Int) (what n : Nat) (L : List Int) : (edgW E what L n).length ≤ L.length + 2 * n := edgR_len _ _ _ _ _
theorem edgW_asc (E : Nat → Nat → Int) (what n : Nat) (L : List Int) (h : L.Pairwise (· < ·)) : (edgW E what L n).Pairwise (· < ·) := edgR_asc _ _ _ _ h _
set_option maxHeartbeats 4000000 in
set_option maxRecDepth 100000 in
theorem l4Of_any (a : Option Addr) (n c : Nat) (E : Nat → Nat → Int) (b : Option Addr) (m c2 : Nat) (F : Nat → Nat → Int) (w : World) (hT : Tab w a n 8 E) (hn : n ≤ 9) (hok : ∀ i, i < n → rbad E i = false) (hU : Tab w b m 8 F) (hm : m ≤ 9) (hok2 : ∀ i, i < m → rbad F i = false) :
    Calls Try.prog 33 #[.slice a n c, .slice b m c2] w fun e w' => ∃ v0 v1 v2, e = .returned (.agg #[v0, v1, v2]) ∧ ILm (w.heap.size + 1) w' v0 (edg2 E F 0 n m) ∧ ILm (w.heap.size + 1) w' v1 (edg2 E F 1 n m) ∧ ILm (w.heap.size + 1) w' v2 (edg2 E F 2 n m) ∧ Below w.heap.size w w' := by
  have HT := hid_in hT; have HU := hid_in hU; have HO := hid_in hok; have HO2 := hid_in hok2
  have e0 := hid_in (fun what => edgW_len E what n [0]); have a0 := hid_in (fun what => edgW_asc E what n [0] (List.pairwise_singleton _ _))
  clear hT hU hok hok2
  have bx := below_box w (.cells #[.slice none 0 0, .slice none 0 0, .slice none 0 0] 71)
  have bx2 := below_box (w.alloc (.cells #[.slice none 0 0, .slice none 0 0, .slice none 0 0] 71)) (.cells #[.int .i64 0] 3)
  have Z0 := hid_in (below_later bx bx2)
  have K0 : Hid (((w.alloc (.cells #[.slice none 0 0, .slice none 0 0, .slice none 0 0] 71)).alloc (.cells #[.int .i64 0] 3)).heap[w.heap.size]? = some (.cells #[.slice none 0 0, .slice none 0 0, .slice none 0 0] 71)) := by show _ = _; rw [bx2.block _ (by simp)]; exact Go.RegE.heap_new _ _ _ rfl
  have I0 := hid_in (ILm.newG (B := w.heap.size + 1) (w.alloc (.cells #[.slice none 0 0, .slice none 0 0, .slice none 0 0] 71)) (w.heap.size + 1) 0 (by simp) 3 (by simp))
  clear bx bx2
  go_enter Try.func33, Try.ntmps33
  go_wp2_with fail
  have S0 : w.heap.size < ((w.alloc (.cells #[.slice none 0 0, .slice none 0 0, .slice none 0 0] 71)).alloc (.cells #[.int .i64 0] 3)).heap.size := by simp; omega
  generalize (w.alloc (.cells #[.slice none 0 0, .slice none 0 0, .slice none 0 0] 71)).alloc (.cells #[.int .i64 0] 3) = W0 at *
  refine (l4EdgesT0 a n c E (w.heap.size + 1) _ [0] W0 (by omega) (HT.out.later Z0.out) hn HO.out I0.out (List.pairwise_singleton _ _) (by simp)).mono ?_
  rintro e w1 ⟨v1, rfl, i1, hb1⟩
  have I1 := hid_in i1; have Z1 := hid_in (below_later Z0.out hb1); have K1 := hid_in ((hb1.block _ S0).trans K0.out); have S1 : w.heap.size < w1.heap.size := Nat.lt_of_lt_of_le S0 hb1.size
  clear i1 hb1 Z0 K0 I0 S0
  go_wp2_with fail
  refine (l4EdgesT0 b m c2 F (w.heap.size + 1) _ _ _ (by omega) (HU.out.later Z1.out) hm HO2.out I1.out (a0.out 0) (by have := e0.out 0; simp at this; omega)).mono ?_
  rintro e w2 ⟨v2, rfl, i2, hb2⟩
  have I2 := hid_in i2; have Z2 := hid_in (below_later Z1.out hb2); have K2 := hid_in ((hb2.block _ S1).trans K1.out); have S2 : w.heap.size < w2.heap.size := Nat.lt_of_lt_of_le S1 hb2.size
  clear i2 hb2 Z1 K1 I1 S1
  go_wp2_with fail
  have q2 := below_box w2 (.cells #[.int .i64 0] 3)
  refine (l4EdgesT1 a n c E (w.heap.size + 1) _ [0] _ (by simp; omega) (HT.out.later (below_later Z2.out q2)) hn HO.out (ILm.new w2 0 (by omega) 3) (List.pairwise_singleton _ _) (by simp)).mono ?_
  rintro e w3 ⟨v3, rfl, i3, hb3⟩
  have J3 := hid_in ((I2.out.later q2).later hb3); have I3 := hid_in i3; have Z3 := hid_in (below_later (below_later Z2.out q2) hb3); have K3 := hid_in (((below_later q2 hb3).block _ S2).trans K2.out); have S3 : w.heap.size < w3.heap.size := Nat.lt_of_lt_of_le S2 (below_later q2 hb3).size
  clear i3 hb3 Z2 K2 I2 S2 q2
  go_wp2_with fail
  refine (l4EdgesT1 b m c2 F (w.heap.size + 1) _ _ _ (by omega) (HU.out.later Z3.out) hm HO2.out I3.out (a0.out 1) (by have := e0.out 1; simp at this; omega)).mono ?_
  rintro e w4 ⟨v4, rfl, i4, hb4⟩
  have J4 := hid_in (J3.out.later hb4); have I4 := hid_in i4; have Z4 := hid_in (below_later Z3.out hb4); have K4 := hid_in ((hb4.block _ S3).trans K3.out); have S4 : w.heap.size < w4.heap.size := Nat.lt_of_lt_of_le S3 hb4.size
  clear i4 hb4 Z3 K3 I3 S3 J3
  go_wp2_with fail
  have q4 := below_box w4 (.cells #[.int .i64 0] 3)
  refine (l4EdgesT2 a n c E (w.heap.size + 1) _ [0] _ (by simp; omega) (HT.out.later (below_later Z4.out q4)) hn HO.out (ILm.new w4 0 (by omega) 3) (List.pairwise_singleton _ _) (by simp)).mono ?_
  rintro e w5 ⟨v5, rfl, i5, hb5⟩
  have J5 := hid_in ((J4.out.later q4).later hb5); have L5 := hid_in ((I4.out.later q4).later hb5); have I5 := hid_in i5; have Z5 := hid_in (below_later (below_later Z4.out q4) hb5); have K5 := hid_in (((below_later q4 hb5).block _ S4).trans K4.out); have S5 : w.heap.size < w5.heap.size := Nat.lt_of_lt_of_le S4 (below_later q4 hb5).size
  clear i5 hb5 Z4 K4 I4 S4 q4 J4
  go_wp2_with fail
  refine (l4EdgesT2 b m c2 F (w.heap.size + 1) _ _ _ (by omega) (HU.out.later Z5.out) hm HO2.out I5.out (a0.out 2) (by have := e0.out 2; simp at this; omega)).mono ?_
  rintro e w6 ⟨v6, rfl, i6, hb6⟩
  have J6 := hid_in (J5.out.later hb6); have L6 := hid_in (L5.out.later hb6); have I6 := hid_in i6; have Z6 := hid_in (below_later Z5.out hb6); have K6 := (hb6.block _ S5).trans K5.out; have S6 : w.heap.size < w6.heap.size := Nat.lt_of_lt_of_le S5 hb6.size
  clear i6 hb6 Z5 K5 I5 S5 J5 L5
  obtain ⟨b2, o2, k2, rfl, x21, x22, x23, x24, x25⟩ := J6.out
  obtain ⟨b4, o4, k4, rfl, x41, x42, x43, x44, x45⟩ := L6.out
  obtain ⟨b6, o6, k6, rfl, x61, x62, x63, x64, x65⟩ := I6.out
  have y0 : w6.cell? ⟨w.heap.size, 0, none⟩ = some (.slice none 0 0) := by unfold World.cell?; simp [K6]
  have y1 : w6.cell? ⟨w.heap.size, 1, none⟩ = some (.slice none 0 0) := by unfold World.cell?; simp [K6]
  have y2 : w6.cell? ⟨w.heap.size, 2, none⟩ = some (.slice none 0 0) := by unfold World.cell?; simp [K6]
  have yf : ∀ o, w6.frozen? ⟨w.heap.size, o, none⟩ = false := fun o => by unfold World.frozen?; simp [K6]
  clear x21 x22 x23 x24 x25 x41 x42 x43 x44 x45 x61 x62 x63 x64 x65
  have hlt := S6
  have R2 := ((J6.out.setL (g := w.heap.size) (o := 0) (u := .slice (some ⟨b2, o2, none⟩) (edg2 E F 0 n m).length k2) (by omega)).setL (g := w.heap.size) (o := 1) (u := .slice (some ⟨b4, o4, none⟩) (edg2 E F 1 n m).length k4) (by omega)).setL (g := w.heap.size) (o := 2) (u := .slice (some ⟨b6, o6, none⟩) (edg2 E F 2 n m).length k6) (by omega)
  have R4 := ((L6.out.setL (g := w.heap.size) (o := 0) (u := .slice (some ⟨b2, o2, none⟩) (edg2 E F 0 n m).length k2) (by omega)).setL (g := w.heap.size) (o := 1) (u := .slice (some ⟨b4, o4, none⟩) (edg2 E F 1 n m).length k4) (by omega)).setL (g := w.heap.size) (o := 2) (u := .slice (some ⟨b6, o6, none⟩) (edg2 E F 2 n m).length k6) (by omega)
  have R6 := ((I6.out.setL (g := w.heap.size) (o := 0) (u := .slice (some ⟨b2, o2, none⟩) (edg2 E F 0 n m).length k2) (by omega)).setL (g := w.heap.size) (o := 1) (u := .slice (some ⟨b4, o4, none⟩) (edg2 E F 1 n m).length k4) (by omega)).setL (g := w.heap.size) (o := 2) (u := .slice (some ⟨b6, o6, none⟩) (edg2 E F 2 n m).length k6) (by omega)
  have RZ := ((Z6.out.setCell (p := ⟨w.heap.size, 0, none⟩) (Nat.le_refl _) (.slice (some ⟨b2, o2, none⟩) (edg2 E F 0 n m).length k2)).setCell (p := ⟨w.heap.size, 1, none⟩) (Nat.le_refl _) (.slice (some ⟨b4, o4, none⟩) (edg2 E F 1 n m).length k4)).setCell (p := ⟨w.heap.size, 2, none⟩) (Nat.le_refl _) (.slice (some ⟨b6, o6, none⟩) (edg2 E F 2 n m).length k6)
  have HR2 := hid_in R2; have HR4 := hid_in R4; have HR6 := hid_in R6; have HRZ := hid_in RZ
  clear R2 R4 R6 RZ J6 L6 I6 Z6 K6
  go_wp2_with (exact bodyPost_ret (v := .agg #[.slice (some ⟨b2, o2, none⟩) (edg2 E F 0 n m).length k2, .slice (some ⟨b4, o4, none⟩) (edg2 E F 1 n m).length k4, .slice (some ⟨b6, o6, none⟩) (edg2 E F 2 n m).length k6]) (by simp [results, Try.results33, go_sem, y0, y1, y2]) rfl ⟨_, _, _, rfl, HR2.out, HR4.out, HR6.out, HRZ.out⟩)
theorem l5To_any (v : Value) (L : List Int) (i : Nat) (most : Int) (w : World) (hL : IL w v L) (hl : L.length ≤ 100) (hi : i < L.length) (hb : ∀ x ∈ L, 0 ≤ x) (hb2 : ∀ x ∈ L, x ≤ 4294967296) :
    Calls Try.prog 36 #[v, .int .i64 (i : Int), .int .i64 most] w fun e w' => e = .returned (.int .i64 (endAt L most i)) ∧ w' = w := by
  obtain ⟨a, cap, rfl, hc, h⟩ := hL
  rcases h with ⟨rfl, rfl⟩ | ⟨bb, off, rfl, h1, h2⟩
  · omega
  · by_cases hd : i + 1 < L.length
    · have hd' : (i : Int) + 1 < (L.length : Int) := by omega
      have g := h2 (i + 1) hd
      have hm : L.getD (i + 1) 0 ∈ L := by rw [List.getD_eq_getElem?_getD, List.getElem?_eq_getElem hd]; exact List.getElem_mem hd
      have g0 := hb _ hm; have g1 := hb2 _ hm
      have E1 : Hid (endAt L most i = L.getD (i + 1) 0 - 1) := by show _ = _; unfold endAt; rw [if_pos hd]
      clear h2 hb hb2 hm
      generalize L.getD (i + 1) 0 = y at *
      go_enter Try.func36, Try.ntmps36
      go_wp2_with fail
      go_ret
      exact ⟨ret_int E1.out.symm, rfl⟩
    · have hd' : decide ((i : Int) + 1 < (L.length : Int)) = false := by simp; omega
      have E1 : Hid (endAt L most i = most) := by show _ = _; unfold endAt; rw [if_neg hd]
      clear h2 hb hb2
      go_enter Try.func36, Try.ntmps36
      go_wp2_with fail
      go_ret
      exact ⟨ret_int E1.out.symm, rfl⟩
theorem infoCe : (Try.prog.info? 30).map (fun i => (i.zero, i.size, i.bytes)) = some (some (.agg #[.int .i64 0, .int .i64 0, .int .i64 0, .int .i64 0, .int .i64 0, .int .i64 0, .int .i64 0]), 7, 56) := by kernel_rfl
theorem elemC : ElemT Try.prog 23 30 7 (.agg #[.int .i64 0, .int .i64 0, .int .i64 0, .int .i64 0, .int .i64 0, .int .i64 0, .int .i64 0]) := ElemT.mk' (b := 56) Try.underlying23 infoCe rfl (by decide) (by decide)
def cv7 (c : Cv) : List Value := [.int .i64 c.a, .int .i64 c.b, .int .i64 c.c, .int .i64 c.d, .int .i64 c.l, .int .i64 c.h, .int .i64 c.r]
theorem one7 (c : Cv) : ∀ u ∈ [Value.int .i64 c.a, .int .i64 c.b, .int .i64 c.c, .int .i64 c.d, .int .i64 c.l, .int .i64 c.h, .int .i64 c.r], u.oneCell' = true := by
  intro u hu
  simp only [List.mem_cons, List.not_mem_nil, or_false] at hu
  rcases hu with rfl | rfl | rfl | rfl | rfl | rfl | rfl <;> rfl
theorem cvL_snoc (A : List Cv) (c : Cv) : cvL (A ++ [c]) = cvL A ++ [.int .i64 c.a, .int .i64 c.b, .int .i64 c.c, .int .i64 c.d, .int .i64 c.l, .int .i64 c.h, .int .i64 c.r] := by
  rw [cvL_append]; rfl
theorem cvL_set (A : List Cv) (x : Cv) (y : Int) : (cvL (A ++ [x])).set (A.length * 7 + 5) (.int .i64 y) = cvL (A ++ [{ x with h := y }]) := by
  rw [cvL_snoc, cvL_snoc, ← cvL_len A, List.set_append_right _ _ (by omega), Nat.add_sub_cancel_left]
  rfl
theorem wpK {P : Program} {T e : TypeId} {k : Nat} {z : Value} {ops : Array Oper} {rest : List Oper} {o : Oper} {a : Act} {Q : Exit → Act → World → Prop} {w : World} (E : ElemT P T e k z) (hgd : o.guard = none) (s x : Operand)
    (ho : o.op = .call { callee := .builtin .append, args := #[s, x], argTypes := #[T, T] })
    (base g n cap : Nat) (xs : List Value) (hs : a.eval s = .slice (some ⟨g, 0, none⟩) n cap) (hown : w.ownsRow base e k (.slice (some ⟨g, 0, none⟩) n cap) n xs) (ad : Addr) (m c : Nat) (news : List Value) (hx : a.eval x = .slice (some ad) m c)
    (hl : news.length = m * k) (hnews : ∀ j u, news[j]? = some u → w.cell? (ad.add j) = some u) (h1 : ∀ u ∈ news, u.oneCell' = true) (hlen : n + m ≤ 4000000) (hbase : base ≤ w.heap.size)
    (h : ∀ v' w', Grew w w' base e k g n m v' xs news → wpList P ops Q rest (a.put o.dst v') w') : wpList P ops Q (o :: rest) a w :=
  wpList_plain hgd fun _ hK => wpK1 E s x ho base g n cap xs hs hown ad m c news hx hl hnews h1 hlen hbase fun v' w' h2 => hK _ _ (h v' w' h2)
theorem grown_set {w w1 : World} {g o : Nat} {u : Value} (hb : Below w.heap.size w w1) : w.grownBy (w1.setCell ⟨g, o, none⟩ u) (some g) :=
  ⟨hb.os, hb.tape, hb.output, by simpa using hb.size, fun k hk hne => (Below.heap_setCell _ _ _ _ (show k ≠ g by rintro rfl; exact hne rfl)).trans (hb.block k hk)⟩
theorem grown_later {w w1 w2 : World} {row : Option Nat} (hb : Below w.heap.size w w1) (hg : w1.grownBy w2 row) : w.grownBy w2 row :=
  ⟨hg.os.trans hb.os, hg.tape.trans hb.tape, hg.output.trans hb.output, Nat.le_trans hb.size hg.size, fun k hk hne => (hg.block k (Nat.lt_of_lt_of_le hk hb.size) hne).trans (hb.block k hk)⟩
/-- What putting a cell to others answers. -/
def JoinP (base g : Nat) (out : List Cv) (c : Cv) (w : World) (e : Ending) (w' : World) : Prop :=
  ∃ g' cap', e = .returned (.slice (some ⟨g', 0, none⟩) (joinR out c).length cap') ∧ w'.ownsRow base 30 7 (.slice (some ⟨g', 0, none⟩) (joinR out c).length cap') (joinR out c).length (cvL (joinR out c).reverse) ∧ w.grownBy w' (some g) ∧ (g' = g ∨ w.heap.size ≤ g')
theorem JoinP.app {base g : Nat} {out : List Cv} {c : Cv} {w w1 w2 : World} {v' : Value} {n : Nat} (hn : n = out.length) (hj : joinR out c = c :: out) (hb : Below w.heap.size w w1) (hG : Grew w1 w2 base 30 7 g n 1 v' (cvL out.reverse) [.int .i64 c.a, .int .i64 c.b, .int .i64 c.c, .int .i64 c.d, .int .i64 c.l, .int .i64 c.h, .int .i64 c.r]) : JoinP base g out c w (.returned v') w2 := by
  subst hn
  obtain ⟨h1, h2, _, h4⟩ := hG
  have h5 := h1
  obtain ⟨h6, h7⟩ := h5
  rcases h7 with ⟨h7, h8⟩ | ⟨g', cap', cur, rfl, h9⟩
  · omega
  · refine ⟨g', cap', by rw [hj]; rfl, ?_, grown_later hb h2, ?_⟩
    · rw [hj, List.reverse_cons, cvL_snoc]; exact h1
    · rcases h4 with h4 | h4
      · exact .inl (Option.some.inj h4)
      · right
        have := Option.some.inj h4
        have hs := hb.size
        show _ ≤ g'
        have e : g' = w1.heap.size := this
        omega
set_option maxHeartbeats 4000000 in
set_option maxRecDepth 100000 in
theorem l5Join_nil (base g cap : Nat) (c : Cv) (w : World) (hbase : base ≤ w.heap.size) (ho : w.ownsRow base 30 7 (.slice (some ⟨g, 0, none⟩) 0 cap) 0 (cvL [])) :
    Calls Try.prog 35 #[.slice (some ⟨g, 0, none⟩) 0 cap, .agg #[.int .i64 c.a, .int .i64 c.b, .int .i64 c.c, .int .i64 c.d, .int .i64 c.l, .int .i64 c.h, .int .i64 c.r]] w (JoinP base g [] c w) := by
  have bx := below_box w (.cells #[.int .i64 c.a, .int .i64 c.b, .int .i64 c.c, .int .i64 c.d, .int .i64 c.l, .int .i64 c.h, .int .i64 c.r] 30)
  have O0 := hid_in (owns_below ho bx); have Z0 := hid_in bx
  clear ho bx
  go_enter Try.func35, Try.ntmps35
  go_wp2_with fail
  refine wp_region_lat (Below.refl _ _) (by kernel_rfl) (by kernel_rfl) ?_
  intro hne hcl
  repeat (go_big_quiet_step (fail))
  refine wpQuiet_nil ?_
  intro w1 hb1
  obtain ⟨hc1, hf1⟩ := bcell hb1
  clear hne hcl
  have O1 := hid_in (owns_below O0.out hb1); have Z1 := hid_in (below_later Z0.out hb1)
  have hs1 := hb1.size
  have p0 := (hc1 w.heap.size 0 (by simp)); have p1 := (hc1 w.heap.size 1 (by simp)); have p2 := (hc1 w.heap.size 2 (by simp)); have p3 := (hc1 w.heap.size 3 (by simp)); have p4 := (hc1 w.heap.size 4 (by simp)); have p5 := (hc1 w.heap.size 5 (by simp)); have p6 := (hc1 w.heap.size 6 (by simp))
  simp at p0 p1 p2 p3 p4 p5 p6
  have hsz := Z1.out.size
  simp at hs1
  go_wp2_with (at_builtin; refine wpK elemC rfl (.tmp 59) (.tmp 61) rfl base g 0 cap _ rfl (O1.out.alloc _) ⟨w1.heap.size, 0, none⟩ 1 1 [.int .i64 c.a, .int .i64 c.b, .int .i64 c.c, .int .i64 c.d, .int .i64 c.l, .int .i64 c.h, .int .i64 c.r] rfl rfl (cells_new _ _ _) (one7 c) (by omega) (by simp; omega) ?_; intro v3 w3 G3; have GR := hid_in G3; clear G3)
  go_ret
  exact JoinP.app rfl rfl (below_later Z1.out (below_box _ _)) GR.out
end Go.Proofs.Ytdljoopioglkiaa
