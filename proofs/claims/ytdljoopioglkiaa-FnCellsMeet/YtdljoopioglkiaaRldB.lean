/- Lists of rules drawn, all of them ok. The conditions stand at each theorem. -/
import Derived.Test.YtdljoopioglkiaaRldA
namespace Go.Proofs.Ytdljoopioglkiaa
open Go.RowKit Go.LatT Go.BlockM Go.OpnT Go.RegE Go.ApdG
set_option linter.unusedVariables false
set_option linter.unusedSimpArgs false
theorem owns_mvR {w w' : World} {R base size n : Nat} {e : TypeId} {v : Value} {xs : List Value} (h : w.ownsRow base e size v n xs) (hm : Mv R w w') (hr : R < base) : w'.ownsRow base e size v n xs := by
  have hlt := fun k hk => (owns_own h k hk)
  obtain ⟨h1, h2⟩ := h
  refine ⟨h1, ?_⟩
  rcases h2 with h2 | ⟨g, cap, cur, e1, e2, e3, e4⟩
  · exact .inl h2
  · exact .inr ⟨g, cap, cur, e1, e2, by rw [hm.block g (hlt g (by rw [e1]; rfl)).2 (by omega)]; exact e3, e4⟩
theorem Mv.grownR {R : Nat} {w w5 w6 : World} {row : Option Nat} (h : Mv R w w5) (hg : w5.grownBy w6 row) (hr : ∀ k, row = some k → w.heap.size ≤ k) : Mv R w w6 :=
  ⟨hg.os.trans h.os, hg.tape.trans h.tape, hg.output.trans h.output, Nat.le_trans h.size hg.size, fun k hk hB => (hg.block k (Nat.lt_of_lt_of_le hk h.size) (fun e => by have := hr k e.symm; omega)).trans (h.block k hk hB)⟩
theorem Rdr.sameR {w X0 X : World} {R : Nat} {sl : Value} {p q : Int} (h0 : Rdr w R sl p) (hx : Rdr X0 R sl q) (mX : Mv R w X) (he : X.heap[R]? = X0.heap[R]?) : Rdr X R sl q := by
  have c : ∀ o, X.cell? ⟨R, o, none⟩ = X0.cell? ⟨R, o, none⟩ := fun o => by unfold World.cell?; rw [he]
  have f : ∀ o, X.frozen? ⟨R, o, none⟩ = X0.frozen? ⟨R, o, none⟩ := fun o => by unfold World.frozen?; rw [he]
  exact ⟨by rw [c]; exact hx.c0, by rw [c]; exact hx.c1, by rw [f]; exact hx.fz, h0.src_of mX⟩
theorem owns_formR {w : World} {base n size : Nat} {e : TypeId} {v : Value} {xs : List Value} (h : w.ownsRow base e size v n xs) : ∃ a c, v = .slice a n c := by
  obtain ⟨_, h2⟩ := h
  rcases h2 with ⟨rfl, rfl⟩ | ⟨g, cap, cur, rfl, _⟩
  · exact ⟨_, _, rfl⟩
  · exact ⟨_, _, rfl⟩
theorem infoRu : (Try.prog.info? 60).map (fun i => (i.zero, i.size, i.bytes)) = some (some (.agg #[.int .i64 0, .int .i64 0, .int .i64 0, .int .i64 0, .int .i64 0, .int .i64 0, .int .i64 0, .int .i64 0]), 8, 64) := by kernel_rfl
theorem elemR : ElemT Try.prog 40 60 8 (.agg #[.int .i64 0, .int .i64 0, .int .i64 0, .int .i64 0, .int .i64 0, .int .i64 0, .int .i64 0, .int .i64 0]) := ElemT.mk' (b := 64) Try.underlying40 infoRu rfl (by decide) (by decide)
def rowR (o t a b c d l h : Int) : Nat → Int
  | 0 => o | 1 => t | 2 => a | 3 => b | 4 => c | 5 => d | 6 => l | _ => h
def snocR (E : Nat → Nat → Int) (k : Nat) (r : Nat → Int) : Nat → Nat → Int := fun i => if i = k then r else E i
theorem flat_snoc (E : Nat → Nat → Int) (k : Nat) (o t a b c d l h : Int) : flatC (snocR E k (rowR o t a b c d l h)) 8 (k + 1) = flatC E 8 k ++ [.int .i64 o, .int .i64 t, .int .i64 a, .int .i64 b, .int .i64 c, .int .i64 d, .int .i64 l, .int .i64 h] := by
  rw [flatC_succ, flatC_congr (R' := E) (fun i hi j _ => by simp [snocR, show i ≠ k by omega])]
  simp [snocR, rowR, List.range, List.range.loop]
theorem snoc_ok {E : Nat → Nat → Int} {k : Nat} {o t a b c d l h : Int} (hE : ∀ i, i < k → rbad E i = false) (hr : rokB o t a b c d l h = true) : ∀ i, i < k + 1 → rbad (snocR E k (rowR o t a b c d l h)) i = false := by
  intro i hi
  by_cases e : i = k
  · subst e; simp [rbad, snocR, rowR, hr]
  · have := hE i (by omega)
    simpa [rbad, snocR, e] using this
theorem over00 (w : World) : Calls Try.prog 26 #[.int .i64 0, .int .i64 0] w fun e w' => e = .returned (.agg #[.int .i64 0, .int .i64 0]) ∧ Below w.heap.size w w' := by
  have := l1Over_any 0 0 w (by omega) (by omega) (by omega) (by omega)
  simpa using this
/-- What holds behind k rules of a drawn list. -/
def LRl (R : Nat) (sl : Value) (q : Int) (w : World) (k : Nat) (E : Nat → Nat → Int) (v : Value) (wr : World) : Prop :=
  Mv R w wr ∧ wr.ownsRow w.heap.size 60 8 v k (flatC E 8 k) ∧ (∀ i, i < k → rbad E i = false) ∧ Rdr wr R sl q
/-- What drawing rules answers. -/
def RlsP (R : Nat) (sl : Value) (p : Int) (w : World) (e : Ending) (w' : World) : Prop :=
  ∃ (v : Value) (n : Nat) (E : Nat → Nat → Int) (q : Int), e = .returned v ∧ w'.ownsRow w.heap.size 60 8 v n (flatC E 8 n) ∧ n ≤ 5 ∧ (∀ i, i < n → rbad E i = false) ∧ p ≤ q ∧ q ≤ p + 1000 ∧ Rdr w' R sl q ∧ Mv R w w'
theorem one8 (o t a b c d l h : Int) : ∀ u ∈ [Value.int .i64 o, .int .i64 t, .int .i64 a, .int .i64 b, .int .i64 c, .int .i64 d, .int .i64 l, .int .i64 h], u.oneCell' = true := by
  intro u hu
  simp only [List.mem_cons, List.not_mem_nil, or_false] at hu
  rcases hu with rfl | rfl | rfl | rfl | rfl | rfl | rfl | rfl <;> rfl
theorem LRl.next {R : Nat} {sl : Value} {q q' : Int} {w : World} {k : Nat} {E : Nat → Nat → Int} {v v3 : Value} {wr w1 w3 : World} {o t a b c d l h : Int} (hR : R < w.heap.size) (h0 : ∃ p, Rdr w R sl p) (hL : LRl R sl q w k E v wr) (m1 : Mv R wr w1) (h1 : Rdr w1 R sl q') (hok : rokB o t a b c d l h = true) (ob : Obj)
    (o3 : w3.ownsRow w.heap.size 60 8 v3 (k + 1) (flatC E 8 k ++ [.int .i64 o, .int .i64 t, .int .i64 a, .int .i64 b, .int .i64 c, .int .i64 d, .int .i64 l, .int .i64 h])) (g3 : (w1.alloc ob).grownBy w3 v.ownBlock) :
    LRl R sl q' w (k + 1) (snocR E k (rowR o t a b c d l h)) v3 w3 := by
  obtain ⟨p, h0⟩ := h0
  have hs := hL.1.size
  have hs1 := m1.size
  have M1 : Mv R w (w1.alloc ob) := (hL.1.trans m1).trans (Mv.of_below (below_box _ _))
  have M3 : Mv R w w3 := M1.grownR g3 (fun j hj => (owns_own hL.2.1 j hj).1)
  refine ⟨M3, by rw [flat_snoc]; exact o3, snoc_ok hL.2.2.1 hok, ?_⟩
  refine h0.sameR (h1.later (below_box w1 ob)) M3 ?_
  exact g3.block R (by simp; omega) (fun e => by have := (owns_own hL.2.1 R e.symm).1; omega)
set_option maxHeartbeats 2000000 in
set_option maxRecDepth 100000 in
theorem l12Rules_any (R : Nat) (sl : Value) (p : Int) (w : World) (h : Rdr w R sl p) (hp : 0 ≤ p) (hp' : p ≤ 700000000) :
    Calls Try.prog 14 #[.pointer (some ⟨R, 0, none⟩)] w fun e w' => RlsP R sl p w e w' := by
  have hlt := h.lt
  have HH := hid_in h
  have bx := below_box w (.cells #[] 60)
  have H0 := hid_in (h.later bx)
  have M0 : Hid (Mv R w (w.alloc (.cells #[] 60))) := Mv.of_below bx
  have O0 := hid_in (World.ownsRow_lit (base := w.heap.size) (e := 60) (size := 8) w #[] 0 (Nat.le_refl _) (Nat.zero_le _) rfl)
  clear h bx
  go_enter Try.func14, Try.ntmps14
  go_wp2_with fail
  refine (pickM R sl p 5 _ H0.out (by omega) (by omega) (by omega) (by omega)).mono ?_
  rintro e w1 ⟨u1, rfl, ua, ub, h1, m1⟩
  obtain ⟨N, rfl⟩ := Int.eq_ofNat_of_zero_le ua
  have I0 : Hid (LRl R sl (p + 1) w 0 (fun _ _ => 0) (.slice (some ⟨w.heap.size, 0, none⟩) 0 0) w1) := by
    show LRl _ _ _ _ _ _ _ _
    exact ⟨M0.out.trans m1, owns_mvR (by exact O0.out) m1 hlt, fun i hi => by omega, h1⟩
  clear H0 M0 O0 h1 m1
  go_wp2_with fail
  go_loopw [3, 4] (fun s vn wr => ∃ (k : Nat) (E : Nat → Nat → Int) (q : Int) (a1 : Option Addr) (c1 : Nat), s = .slice a1 k c1 ∧ vn = .int .i64 ((N - k : Nat) : Int) ∧ k ≤ N ∧ p + 1 ≤ q ∧ q ≤ p + 1 + 100 * (k : Int) ∧ Hid (LRl R sl q w k E (.slice a1 k c1) wr)) (fun _ vn _ => (intOf vn).toNat)
  case atStart => exact ⟨0, fun _ _ => 0, p + 1, _, _, rfl, rfl, Nat.zero_le _, by omega, by omega, I0⟩
  case round =>
    obtain ⟨k, E, q, a1, c1, rfl, rfl, hk, hq0, hq1, HW⟩ := hrel
    have hs1 := HW.out.1.size
    by_cases hd : k < N
    · have hd' : (0 : Int) < ((N - k : Nat) : Int) := by omega
      have hd2 : ((N - k : Nat) : Int) - 1 = ((N - (k + 1) : Nat) : Int) := by omega
      go_wp2_with fail
      refine (l12Rule_any R sl q _ HW.out.2.2.2 (by omega) (by omega)).mono ?_
      rintro e w2 ⟨o, t, a, b, c, d, l, h, rfl, hok, ⟨q2, c2, d2, h2⟩, m2⟩
      have hs2 := m2.size
      have O2 := hid_in (owns_mvR HW.out.2.1 m2 hlt)
      have NX := hid_in (fun (v3 : Value) (w3 : World) (ob : Obj) (o3 : w3.ownsRow w.heap.size 60 8 v3 (k + 1) (flatC E 8 k ++ [.int .i64 o, .int .i64 t, .int .i64 a, .int .i64 b, .int .i64 c, .int .i64 d, .int .i64 l, .int .i64 h])) (g3 : (w2.alloc ob).grownBy w3 (Value.slice a1 k c1).ownBlock) => HW.out.next hlt ⟨p, HH.out⟩ m2 h2 hok ob o3 g3)
      clear h2 m2 hok
      go_wp2_with (at_builtin; refine wpG elemR rfl (.tmp 12) (.tmp 15) rfl w.heap.size _ k _ rfl (O2.out.alloc _) ⟨w2.heap.size, 0, none⟩ 1 1 [.int .i64 o, .int .i64 t, .int .i64 a, .int .i64 b, .int .i64 c, .int .i64 d, .int .i64 l, .int .i64 h] rfl rfl (cells_new _ _ _) (one8 _ _ _ _ _ _ _ _) (by omega) (by simp; omega) ?_; intro v3 w3 o3 g3 n3; obtain ⟨a3, c3, rfl⟩ := owns_formR o3; have O3 := hid_in o3; have G3 := hid_in g3; clear o3 g3 n3)
      exact ⟨⟨k + 1, _, q2, a3, c3, rfl, by simp, by omega, by omega, by omega, NX.out _ _ _ O3.out G3.out⟩, by simp [intOf]; omega⟩
    · have hd' : decide ((0 : Int) < ((N - k : Nat) : Int)) = false := by simp; omega
      obtain rfl : k = N := by omega
      go_wp2_with fail
      refine (pickM R sl q 2 _ HW.out.2.2.2 (by omega) (by omega) (by omega) (by omega)).mono ?_
      rintro e w2 ⟨u2, rfl, a2, b2, h2, m2⟩
      have O2 := hid_in (owns_mvR HW.out.2.1 m2 hlt)
      have hs2 := m2.size
      by_cases hu : u2 = 0
      · subst hu
        go_wp2_with fail
        refine (oneG R w2.heap.size sl _ [1, 2, 2] 3 _ 3 w2 rfl rfl rfl h2 (by omega) (by omega) (by simp) (by simp)).mono ?_
        rintro e w3 ⟨o, rfl, ho, h3, m3⟩
        have ho2 : o = 1 ∨ o = 2 := by simpa using ho
        have hok : rokB o 0 0 0 0 0 0 65535 = true := by rcases ho2 with rfl | rfl <;> decide
        have HOK := hid_in hok; have H3 := hid_in h3; have M3 := hid_in (m2.trans m3)
        clear ho ho2 hok h2 h3 m3 m2 O2
        go_wp2_with fail
        refine (over00 _).mono ?_
        rintro e w4 ⟨rfl, hb4⟩
        have H4 := hid_in (H3.out.later hb4); have M4 := hid_in (M3.out.trans (Mv.of_below hb4)); clear hb4 H3 M3
        go_wp2_with fail
        refine (over00 _).mono ?_
        rintro e w5 ⟨rfl, hb5⟩
        have m5 := M4.out.trans (Mv.of_below hb5)
        have hs5 := m5.size
        have O5 := hid_in (owns_mvR HW.out.2.1 m5 hlt)
        have NX := hid_in (fun (v3 : Value) (w3 : World) (ob : Obj) (o3 : w3.ownsRow w.heap.size 60 8 v3 (k + 1) (flatC E 8 k ++ [.int .i64 o, .int .i64 0, .int .i64 0, .int .i64 0, .int .i64 0, .int .i64 0, .int .i64 0, .int .i64 65535])) (g3 : (w5.alloc ob).grownBy w3 (Value.slice a1 k c1).ownBlock) => HW.out.next hlt ⟨p, HH.out⟩ m5 (H4.out.later hb5) HOK.out ob o3 g3)
        clear hb5 m5 H4 M4
        go_wp2_with (at_builtin; refine wpG elemR rfl (.tmp 20) (.tmp 27) rfl w.heap.size _ k _ rfl (O5.out.alloc _) ⟨w5.heap.size, 0, none⟩ 1 1 [.int .i64 o, .int .i64 0, .int .i64 0, .int .i64 0, .int .i64 0, .int .i64 0, .int .i64 0, .int .i64 65535] rfl rfl (cells_new _ _ _) (one8 _ _ _ _ _ _ _ _) (by omega) (by simp; omega) ?_; intro v3 w3 o3 g3 n3; obtain ⟨a3, c3, rfl⟩ := owns_formR o3; have O3 := hid_in o3; have G3 := hid_in g3; clear o3 g3 n3)
        go_ret
        obtain ⟨r1, r2, r3, r4⟩ := NX.out _ _ _ O3.out G3.out
        exact ⟨_, k + 1, _, _, rfl, r2, by omega, r3, by omega, by omega, r4, r1⟩
      · have hu' : (u2 == 0) = false := by simpa using hu
        have M2 := hid_in (HW.out.1.trans m2); have H2 := hid_in h2
        clear m2 h2
        go_wp2_with fail
        go_ret
        exact ⟨_, k, E, _, rfl, O2.out, by omega, HW.out.2.2.1, by omega, by omega, H2.out, M2.out⟩
end Go.Proofs.Ytdljoopioglkiaa
