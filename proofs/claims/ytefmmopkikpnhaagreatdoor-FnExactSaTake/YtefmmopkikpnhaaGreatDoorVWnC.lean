/- What is proved: the contracts of WinI, WinJ, WinK, MrkA, WinL, one behind the other. The conditions stand at each theorem. -/
import Derived.Test.YtefmmopkikpnhaaGreatDoorVWnB
import Derived.Deep.RegionLaw
import Derived.Test.YtefmmopkikpnhaaGreatDoorVWin
namespace Go.Proofs.YtefmmopkikpnhaaGreatDoor
open Go.RowKit Go.LatT Go.BlockM Go.OpnT Go.WinMath
set_option linter.unusedVariables false
set_option linter.unusedSimpArgs false
/-- What holds of a list that is cut while it is read: behind k of it. -/
def SI (B : Nat) (w4 : World) (M : Int) (A : List Int) (k : Nat) (wr : World) : Prop :=
  Mv B w4 wr ∧ wr.cell? ⟨B, 0, none⟩ = some (.int .i64 M) ∧ wr.frozen? ⟨B, 0, none⟩ = false ∧ wr.frozen? ⟨B, 1, none⟩ = false ∧
    ∃ vs m, wr.cell? ⟨B, 1, none⟩ = some vs ∧ wr.ownsRow w4.heap.size 3 1 vs m (i64s ((A.take k).filter fun x => decide (M - 16 < x)))
theorem take_filter_no {A : List Int} {k : Nat} {p : Int → Bool} (hk : k < A.length) (h : p (A.getD k 0) = false) : (A.take (k + 1)).filter p = (A.take k).filter p := by
  rw [List.take_add_one, List.filter_append]
  have : A[k]? = some (A.getD k 0) := by simp [hk]
  rw [this, Option.toList_some, List.filter_cons, h]
  simp
theorem take_filter_yes {A : List Int} {k : Nat} {p : Int → Bool} (hk : k < A.length) (h : p (A.getD k 0) = true) : (A.take (k + 1)).filter p = (A.take k).filter p ++ [A.getD k 0] := by
  rw [List.take_add_one, List.filter_append]
  have : A[k]? = some (A.getD k 0) := by simp [hk]
  rw [this, Option.toList_some, List.filter_cons, h]
  simp
theorem Mv.grownB {B : Nat} {w4 wr w5 w6 : World} {row : Option Nat} (h : Mv B w4 wr) (hb : Below wr.heap.size wr w5) (hg : w5.grownBy w6 row) (hr : ∀ k, row = some k → w4.heap.size ≤ k) : Mv B w4 w6 := by
  have h2 := h.trans (Mv.of_below hb)
  refine ⟨hg.os.trans h2.os, hg.tape.trans h2.tape, hg.output.trans h2.output, Nat.le_trans h2.size hg.size, fun k hk hB => ?_⟩
  exact (hg.block k (Nat.lt_of_lt_of_le hk h2.size) (fun e => by have := hr k e.symm; omega)).trans (h2.block k hk hB)
theorem SeeL.fine {T n M : Int} {L : List Int} {w w' : World} {v' : Value} {m : Nat} (hn : inB n 1 1000000 = true) (ho : T - 16 < n) (hm : n ∉ L) (hM : (if T < n then n else T) = M)
    (hown : w'.ownsRow w.heap.size 3 1 v' m (i64s ((ins n L).filter fun x => decide (M - 16 < x)))) (hb : Below w.heap.size w w') : SeeL T n L w (.returned (.tuple #[.agg #[.int .i64 M, v'], .int .i64 0])) w' := by
  have hc : codeL T L n = 0 := by
    unfold codeL
    rw [if_neg (by simp [inB] at hn; omega), if_neg (by omega), if_neg hm]
  have ht : topL T L n = M := by
    unfold topL
    rw [hc, ← hM]
    simp
  exact ⟨v', m, by rw [hc, ht], by unfold listL; rw [if_pos hc, ht]; exact hown, hb⟩
set_option maxHeartbeats 4000000 in
set_option maxRecDepth 100000 in
theorem l7See_fine (T n : Int) (c : Nat) (L : List Int) (v : Value) (w : World) (hL : IL w v L) (hr : Rep T c L) (hn : inB n 1 1000000 = true) (ho : ¬ n ≤ T - 16) (hm : n ∉ L) :
    Calls Tryz.prog 122 #[.agg #[.int .i64 T, v], .int .i64 n] w (SeeL T n L w) := by
  have HL := hid_in hL; have HR := hid_in hr
  have t0 := hr.t0; have t1 := hr.t1
  obtain ⟨a, cap, rfl⟩ := hL.form
  have HN := hid_in hn; have HM := hid_in hm
  clear hL hn hr hm
  go_enter Tryz.func122, Tryz.ntmps122
  go_wp2_with fail
  refine (l1InW n _ true HN.out).mono ?_
  rintro e w' ⟨rfl, rfl⟩
  go_wp2_with fail
  have zW : Below w.heap.size w ((w.alloc (Obj.cells #[.int .i64 T, .slice a L.length cap] 43)).alloc (Obj.cells #[.int .i64 0, .slice none 0 0] 43)) := by go_grown
  have sW : ((w.alloc (Obj.cells #[.int .i64 T, .slice a L.length cap] 43)).alloc (Obj.cells #[.int .i64 0, .slice none 0 0] 43)).heap.size = w.heap.size + 1 + 1 := heapSize2 _ _ _
  have k0 : ((w.alloc (Obj.cells #[.int .i64 T, .slice a L.length cap] 43)).alloc (Obj.cells #[.int .i64 0, .slice none 0 0] 43)).cell? ⟨w.heap.size + 1, 0, none⟩ = some (.int .i64 0) := by go_simp
  have k1 : ((w.alloc (Obj.cells #[.int .i64 T, .slice a L.length cap] 43)).alloc (Obj.cells #[.int .i64 0, .slice none 0 0] 43)).cell? ⟨w.heap.size + 1, 1, none⟩ = some (.slice none 0 0) := by go_simp
  have k2 : ((w.alloc (Obj.cells #[.int .i64 T, .slice a L.length cap] 43)).alloc (Obj.cells #[.int .i64 0, .slice none 0 0] 43)).frozen? ⟨w.heap.size + 1, 0, none⟩ = false := by go_simp
  have k3 : ((w.alloc (Obj.cells #[.int .i64 T, .slice a L.length cap] 43)).alloc (Obj.cells #[.int .i64 0, .slice none 0 0] 43)).frozen? ⟨w.heap.size + 1, 1, none⟩ = false := by go_simp
  have k4 : ((w.alloc (Obj.cells #[.int .i64 T, .slice a L.length cap] 43)).alloc (Obj.cells #[.int .i64 0, .slice none 0 0] 43)).cell? ⟨w.heap.size, 0, none⟩ = some (.int .i64 T) := by go_simp
  have k5 : ((w.alloc (Obj.cells #[.int .i64 T, .slice a L.length cap] 43)).alloc (Obj.cells #[.int .i64 0, .slice none 0 0] 43)).cell? ⟨w.heap.size, 1, none⟩ = some (.slice a L.length cap) := by go_simp
  generalize ((w.alloc (Obj.cells #[.int .i64 T, .slice a L.length cap] 43)).alloc (Obj.cells #[.int .i64 0, .slice none 0 0] 43)) = W at *
  refine (l7Had_any T n _ L _ (HL.out.later zW) (by have := repW_len HR.out; omega) false (decide_eq_false HM.out)).mono ?_
  rintro e w2 ⟨rfl, hb2⟩
  obtain ⟨x1, x2⟩ := bcell hb2
  replace k0 := (x1 _ _ (by omega)).trans k0
  replace k1 := (x1 _ _ (by omega)).trans k1
  replace k2 := (x2 _ _ (by omega)).trans k2
  replace k3 := (x2 _ _ (by omega)).trans k3
  replace k4 := (x1 _ _ (by omega)).trans k4
  replace k5 := (x1 _ _ (by omega)).trans k5
  replace zW := zW.trans (hb2.mono (show w.heap.size ≤ W.heap.size by omega))
  have s2 : w.heap.size + 1 + 1 ≤ w2.heap.size := by have := hb2.size; omega
  have m1 : w.heap.size < w2.heap.size := by omega
  have m2 : w.heap.size + 1 < w2.heap.size := by omega
  have m3 : ¬ w.heap.size = w2.heap.size := by omega
  have m4 : ¬ w.heap.size + 1 = w2.heap.size := by omega
  clear x1 x2 hb2 sW
  have hlen := repW_len HR.out
  have nb0 : 1 ≤ n := by have h := HN.out; simp [inB] at h; omega
  have nb1 : n ≤ 1000000 := by have h := HN.out; simp [inB] at h; omega
  by_cases htop : T < n
  · go_wp2_with (at_builtin; refine wpI_append rfl (.tmp 38) (.tmp 40) rfl (w2.heap.size + 1) (.slice (some ⟨w2.heap.size + 1, 0, none⟩) 0 0) 0 [] rfl (by first | exact owns_nil_lit 3 (by simp) | (have h := owns_nil_lit (w := w2.alloc (Obj.cells #[.int .i64 n, .slice none 0 0] 43)) (base := w2.heap.size + 1) 3 (by simp); rw [heapSize1] at h; exact h)) _ L rfl (HL.out.later (by go_grown)) (by omega) (by simp; try omega) ?_; intro v3 w3 o3 g3 n3)
    simp only [List.nil_append, Nat.zero_add] at o3
    obtain ⟨g, cp, rfl, hg1, hg2, hg3, hg4, hg5⟩ := owns_some o3 (n3 (by simp))
    have b3 : Below (w2.heap.size + 1) (w2.alloc (Obj.cells #[.int .i64 n, .slice none 0 0] 43)) w3 := by
      have h1 : Below (w2.heap.size + 1) (w2.alloc (Obj.cells #[.int .i64 n, .slice none 0 0] 43)) ((w2.alloc (Obj.cells #[.int .i64 n, .slice none 0 0] 43)).alloc (Obj.cells #[] 3)) := by
        have := below_box (w2.alloc (Obj.cells #[.int .i64 n, .slice none 0 0] 43)) (Obj.cells #[] 3)
        rw [heapSize1] at this; exact this
      refine h1.trans (grown_below g3 (by simp) (fun k hk => ?_))
      have hk2 : some (w2.heap.size + 1) = some k := hk
      have := Option.some.inj hk2
      omega
    obtain ⟨x1, x2⟩ := bcellB b3
    have j0 : w3.cell? ⟨w2.heap.size, 0, none⟩ = some (.int .i64 n) := by rw [x1 _ _ (by omega)]; go_simp
    have j1 : w3.cell? ⟨w2.heap.size, 1, none⟩ = some (.slice none 0 0) := by rw [x1 _ _ (by omega)]; go_simp
    have j2 : w3.frozen? ⟨w2.heap.size, 0, none⟩ = false := by rw [x2 _ _ (by omega)]; go_simp
    have j3 : w3.frozen? ⟨w2.heap.size, 1, none⟩ = false := by rw [x2 _ _ (by omega)]; go_simp
    have zB : Below w.heap.size w w3 := zW.trans ((below_box w2 _).mono (by omega) |>.trans (b3.mono (by omega)))
    have zB2 : Below w2.heap.size w2 w3 := (below_box w2 _).trans (b3.mono (by omega))
    obtain ⟨y1, y2⟩ := bcell zB2
    replace k0 := (y1 _ _ m2).trans k0
    replace k1 := (y1 _ _ m2).trans k1
    replace k2 := (y2 _ _ m2).trans k2
    replace k3 := (y2 _ _ m2).trans k3
    have s3 : w2.heap.size + 1 ≤ w3.heap.size := by have := b3.size; simp at this; omega
    clear x1 x2 y1 y2 o3 g3 n3 k4 k5 b3 zB2 zW
    refine (l3Num_any n g 0 cp L w3 hg3 hg4 hg2 hg5 (by omega) HM.out).mono ?_
    rintro e w4 ⟨v4, rfl, o4, hb4⟩
    obtain ⟨x1, x2⟩ := bcell hb4
    replace k0 := (x1 _ _ (by omega)).trans k0
    replace k1 := (x1 _ _ (by omega)).trans k1
    replace k2 := (x2 _ _ (by omega)).trans k2
    replace k3 := (x2 _ _ (by omega)).trans k3
    replace j0 := (x1 _ _ (by omega)).trans j0
    replace j1 := (x1 _ _ (by omega)).trans j1
    replace j2 := (x2 _ _ (by omega)).trans j2
    replace j3 := (x2 _ _ (by omega)).trans j3
    replace zB := zB.trans (hb4.mono (show w.heap.size ≤ w3.heap.size by omega))
    have s4 : w2.heap.size + 1 ≤ w4.heap.size := by have := hb4.size; omega
    have hlin := owns_len o4
    obtain ⟨g4, c4, rfl, hq1, hq2, hq3, hq4, hq5⟩ := owns_some o4 (by rintro rfl; obtain ⟨_, h | ⟨_, _, _, h, _⟩⟩ := o4 <;> simp at h)
    have Q5 := hid_in hq5; have ZB := hid_in zB; have K0 := hid_in k0; have K1 := hid_in k1; have K2 := hid_in k2; have K3 := hid_in k3
    have I0 : Hid (SI w2.heap.size w4 n (ins n L) 0 w4) := by show SI _ _ _ _ _ _; exact ⟨Mv.refl _ _, j0, j2, j3, _, 0, j1, World.ownsRow_nil _ _ _ _⟩
    clear x1 x2 hb4 o4 hg1 hg2 hg3 hg4 hg5 k0 k1 k2 k3 j0 j1 j2 j3 hq5 zB
    generalize hA : ins n L = A at *
    have HA := hid_in hA
    clear hA
    go_wp2_with fail
    go_loopw [8] (fun u wr => ∃ k : Nat, k ≤ A.length ∧ u = .int .i64 (k : Int) ∧ Hid (SI w2.heap.size w4 n A k wr)) (fun u _ => A.length - (intOf u).toNat)
    case atStart => exact ⟨0, Nat.zero_le _, rfl, I0⟩
    case round =>
      obtain ⟨k, hk, rfl, HW⟩ := hrel
      obtain ⟨hM, i0, i2, i3, vs, m, i1, io⟩ := HW.out
      have hge : ¬ g4 = w2.heap.size := by omega
      have q0 := (hM.cell (w.heap.size + 1) 0 (by omega) (by omega)).trans K0.out
      have q1 := (hM.cell (w.heap.size + 1) 1 (by omega) (by omega)).trans K1.out
      have q2 := (hM.frozen (w.heap.size + 1) 0 (by omega) (by omega)).trans K2.out
      have q3 := (hM.frozen (w.heap.size + 1) 1 (by omega) (by omega)).trans K3.out
      have hsz := hM.size
      obtain ⟨a5, c5, rfl⟩ := owns_form io
      have hmk : m ≤ k := by rw [owns_len io]; exact Nat.le_trans (List.length_filter_le _ _) (by rw [List.length_take]; omega)
      have l1 : w2.heap.size < wr.heap.size := by omega
      have l2 : w.heap.size + 1 < wr.heap.size := by omega
      have l3 : g4 < wr.heap.size := by omega
      have IO := hid_in io; have HMv := hid_in hM
      by_cases hlt' : k < A.length
      · have hd : (k : Int) < (A.length : Int) := by omega
        have g0 := (hM.cell g4 (0 + k) hq2 hge).trans (Q5.out k hlt')
        rw [Nat.zero_add] at g0
        generalize hy : A.getD k 0 = y at g0
        have HY := hid_in hy
        clear hy hM io
        by_cases hs : n - 16 < y
        · have hs' : decide (n - 16 < y) = true := by simp; omega
          have hne5 : Hid ((Value.slice a5 m c5).ownBlock ≠ some w2.heap.size) := by
            show _ ≠ _
            intro h; have := (owns_own IO.out _ h).1; omega
          have hne6 : Hid ((Value.slice a5 m c5).ownBlock ≠ some g4) := by
            show _ ≠ _
            intro h; have := (owns_own IO.out _ h).1; omega
          go_wp2_with fail
          go_region
          go_wp2_with fail
          go_region_law (first | (refine stepI_append rfl (.tmp 59) (.tmp 64) rfl w4.heap.size (.slice a5 m c5) m _ rfl (by first | exact IO.out.alloc _ | exact (owns_drew IO.out).alloc _) _ [y] rfl (by first | exact IL.one _ _ _) (by simp; omega) (by simp; omega) ?_; intro v6 w6 o6 g6 n6; have u1 : w6.cell? ⟨w2.heap.size, 1, none⟩ = some (.slice a5 m c5) := ((grown_cells g6 w2.heap.size 1 (by simp; omega) hne5.out).1.trans (by go_simp)); have u0 : w6.cell? ⟨w2.heap.size, 0, none⟩ = some (.int .i64 n) := ((grown_cells g6 w2.heap.size 0 (by simp; omega) hne5.out).1.trans (by go_simp)); have u2 : w6.frozen? ⟨w2.heap.size, 1, none⟩ = false := ((grown_cells g6 w2.heap.size 1 (by simp; omega) hne5.out).2.trans (by go_simp)); have u3 : w6.frozen? ⟨w2.heap.size, 0, none⟩ = false := ((grown_cells g6 w2.heap.size 0 (by simp; omega) hne5.out).2.trans (by go_simp)); have u4 : w6.cell? ⟨g4, k, none⟩ = some (.int .i64 y) := ((grown_cells g6 g4 k (by simp; omega) hne6.out).1.trans (by go_simp)); obtain ⟨a6, c6, e6⟩ := owns_form o6; subst e6; have O6 := hid_in o6; have G6 := hid_in g6; clear o6 g6 n6 i0 i1 i2 i3))
          all_goals
            go_wp2_with fail
            refine ⟨⟨k + 1, by omega, by simp, ?_⟩, by simp [intOf]; omega⟩
            show SI _ _ _ _ _ _
            refine ⟨(HMv.out.grownB (by go_grown) G6.out (fun k hk => (owns_own IO.out k hk).1)).poke1 _, by go_simp, by go_simp, by go_simp, .slice a6 (m + 1) c6, m + 1, by go_simp, ?_⟩
            rw [take_filter_yes hlt' (by rw [HY.out]; exact hs'), HY.out]
            exact owns_set O6.out (by omega)
        · have hs' : decide (n - 16 < y) = false := by simp; omega
          go_wp2_with fail
          go_region
          go_wp2_with fail
          refine ⟨⟨k + 1, by omega, by simp, ?_⟩, by simp [intOf]; omega⟩
          show SI _ _ _ _ _ _
          refine ⟨HMv.out.drew1, i0, i2, i3, _, m, i1, ?_⟩
          rw [take_filter_no hlt' (by rw [HY.out]; exact hs')]
          exact owns_drew IO.out
      · have hd : decide ((k : Int) < (A.length : Int)) = false := by simp; omega
        have e : k = A.length := by omega
        have HE := hid_in e
        clear hM io e
        go_wp2_with fail
        exact bodyPost_ret (v := .tuple #[.agg #[.int .i64 n, .slice a5 m c5], .int .i64 0]) (by simp [results, Tryz.results122, go_sem, q0, q1]) rfl
          (SeeL.fine (M := n) HN.out ho HM.out (by first | (rw [if_pos htop]) | (rw [if_neg (by omega)])) (by rw [HA.out]; have h := IO.out; rw [HE.out, List.take_length] at h; exact ownsW_base (owns_set (owns_set h (by omega)) (by omega)) (by omega)) (((ZB.out.trans (HMv.out.below (by omega) (by omega))).setCell (by simp) _).setCell (by simp) _))
  · have htop' : decide (T < n) = false := by simp; omega
    go_wp2_with (at_builtin; refine wpI_append rfl (.tmp 38) (.tmp 40) rfl (w2.heap.size + 1) (.slice (some ⟨w2.heap.size + 1, 0, none⟩) 0 0) 0 [] rfl (by first | exact owns_nil_lit 3 (by simp) | (have h := owns_nil_lit (w := w2.alloc (Obj.cells #[.int .i64 T, .slice none 0 0] 43)) (base := w2.heap.size + 1) 3 (by simp); rw [heapSize1] at h; exact h)) _ L rfl (HL.out.later (by go_grown)) (by omega) (by simp; try omega) ?_; intro v3 w3 o3 g3 n3)
    simp only [List.nil_append, Nat.zero_add] at o3
    obtain ⟨g, cp, rfl, hg1, hg2, hg3, hg4, hg5⟩ := owns_some o3 (n3 (by simp))
    have b3 : Below (w2.heap.size + 1) (w2.alloc (Obj.cells #[.int .i64 T, .slice none 0 0] 43)) w3 := by
      have h1 : Below (w2.heap.size + 1) (w2.alloc (Obj.cells #[.int .i64 T, .slice none 0 0] 43)) ((w2.alloc (Obj.cells #[.int .i64 T, .slice none 0 0] 43)).alloc (Obj.cells #[] 3)) := by
        have := below_box (w2.alloc (Obj.cells #[.int .i64 T, .slice none 0 0] 43)) (Obj.cells #[] 3)
        rw [heapSize1] at this; exact this
      refine h1.trans (grown_below g3 (by simp) (fun k hk => ?_))
      have hk2 : some (w2.heap.size + 1) = some k := hk
      have := Option.some.inj hk2
      omega
    obtain ⟨x1, x2⟩ := bcellB b3
    have j0 : w3.cell? ⟨w2.heap.size, 0, none⟩ = some (.int .i64 T) := by rw [x1 _ _ (by omega)]; go_simp
    have j1 : w3.cell? ⟨w2.heap.size, 1, none⟩ = some (.slice none 0 0) := by rw [x1 _ _ (by omega)]; go_simp
    have j2 : w3.frozen? ⟨w2.heap.size, 0, none⟩ = false := by rw [x2 _ _ (by omega)]; go_simp
    have j3 : w3.frozen? ⟨w2.heap.size, 1, none⟩ = false := by rw [x2 _ _ (by omega)]; go_simp
    have zB : Below w.heap.size w w3 := zW.trans ((below_box w2 _).mono (by omega) |>.trans (b3.mono (by omega)))
    have zB2 : Below w2.heap.size w2 w3 := (below_box w2 _).trans (b3.mono (by omega))
    obtain ⟨y1, y2⟩ := bcell zB2
    replace k0 := (y1 _ _ m2).trans k0
    replace k1 := (y1 _ _ m2).trans k1
    replace k2 := (y2 _ _ m2).trans k2
    replace k3 := (y2 _ _ m2).trans k3
    have s3 : w2.heap.size + 1 ≤ w3.heap.size := by have := b3.size; simp at this; omega
    clear x1 x2 y1 y2 o3 g3 n3 k4 k5 b3 zB2 zW
    refine (l3Num_any n g 0 cp L w3 hg3 hg4 hg2 hg5 (by omega) HM.out).mono ?_
    rintro e w4 ⟨v4, rfl, o4, hb4⟩
    obtain ⟨x1, x2⟩ := bcell hb4
    replace k0 := (x1 _ _ (by omega)).trans k0
    replace k1 := (x1 _ _ (by omega)).trans k1
    replace k2 := (x2 _ _ (by omega)).trans k2
    replace k3 := (x2 _ _ (by omega)).trans k3
    replace j0 := (x1 _ _ (by omega)).trans j0
    replace j1 := (x1 _ _ (by omega)).trans j1
    replace j2 := (x2 _ _ (by omega)).trans j2
    replace j3 := (x2 _ _ (by omega)).trans j3
    replace zB := zB.trans (hb4.mono (show w.heap.size ≤ w3.heap.size by omega))
    have s4 : w2.heap.size + 1 ≤ w4.heap.size := by have := hb4.size; omega
    have hlin := owns_len o4
    obtain ⟨g4, c4, rfl, hq1, hq2, hq3, hq4, hq5⟩ := owns_some o4 (by rintro rfl; obtain ⟨_, h | ⟨_, _, _, h, _⟩⟩ := o4 <;> simp at h)
    have Q5 := hid_in hq5; have ZB := hid_in zB; have K0 := hid_in k0; have K1 := hid_in k1; have K2 := hid_in k2; have K3 := hid_in k3
    have I0 : Hid (SI w2.heap.size w4 T (ins n L) 0 w4) := by show SI _ _ _ _ _ _; exact ⟨Mv.refl _ _, j0, j2, j3, _, 0, j1, World.ownsRow_nil _ _ _ _⟩
    clear x1 x2 hb4 o4 hg1 hg2 hg3 hg4 hg5 k0 k1 k2 k3 j0 j1 j2 j3 hq5 zB
    generalize hA : ins n L = A at *
    have HA := hid_in hA
    clear hA
    go_wp2_with fail
    go_loopw [8] (fun u wr => ∃ k : Nat, k ≤ A.length ∧ u = .int .i64 (k : Int) ∧ Hid (SI w2.heap.size w4 T A k wr)) (fun u _ => A.length - (intOf u).toNat)
    case atStart => exact ⟨0, Nat.zero_le _, rfl, I0⟩
    case round =>
      obtain ⟨k, hk, rfl, HW⟩ := hrel
      obtain ⟨hM, i0, i2, i3, vs, m, i1, io⟩ := HW.out
      have hge : ¬ g4 = w2.heap.size := by omega
      have q0 := (hM.cell (w.heap.size + 1) 0 (by omega) (by omega)).trans K0.out
      have q1 := (hM.cell (w.heap.size + 1) 1 (by omega) (by omega)).trans K1.out
      have q2 := (hM.frozen (w.heap.size + 1) 0 (by omega) (by omega)).trans K2.out
      have q3 := (hM.frozen (w.heap.size + 1) 1 (by omega) (by omega)).trans K3.out
      have hsz := hM.size
      obtain ⟨a5, c5, rfl⟩ := owns_form io
      have hmk : m ≤ k := by rw [owns_len io]; exact Nat.le_trans (List.length_filter_le _ _) (by rw [List.length_take]; omega)
      have l1 : w2.heap.size < wr.heap.size := by omega
      have l2 : w.heap.size + 1 < wr.heap.size := by omega
      have l3 : g4 < wr.heap.size := by omega
      have IO := hid_in io; have HMv := hid_in hM
      by_cases hlt' : k < A.length
      · have hd : (k : Int) < (A.length : Int) := by omega
        have g0 := (hM.cell g4 (0 + k) hq2 hge).trans (Q5.out k hlt')
        rw [Nat.zero_add] at g0
        generalize hy : A.getD k 0 = y at g0
        have HY := hid_in hy
        clear hy hM io
        by_cases hs : T - 16 < y
        · have hs' : decide (T - 16 < y) = true := by simp; omega
          have hne5 : Hid ((Value.slice a5 m c5).ownBlock ≠ some w2.heap.size) := by
            show _ ≠ _
            intro h; have := (owns_own IO.out _ h).1; omega
          have hne6 : Hid ((Value.slice a5 m c5).ownBlock ≠ some g4) := by
            show _ ≠ _
            intro h; have := (owns_own IO.out _ h).1; omega
          go_wp2_with fail
          go_region
          go_wp2_with fail
          go_region_law (first | (refine stepI_append rfl (.tmp 59) (.tmp 64) rfl w4.heap.size (.slice a5 m c5) m _ rfl (by first | exact IO.out.alloc _ | exact (owns_drew IO.out).alloc _) _ [y] rfl (by first | exact IL.one _ _ _) (by simp; omega) (by simp; omega) ?_; intro v6 w6 o6 g6 n6; have u1 : w6.cell? ⟨w2.heap.size, 1, none⟩ = some (.slice a5 m c5) := ((grown_cells g6 w2.heap.size 1 (by simp; omega) hne5.out).1.trans (by go_simp)); have u0 : w6.cell? ⟨w2.heap.size, 0, none⟩ = some (.int .i64 T) := ((grown_cells g6 w2.heap.size 0 (by simp; omega) hne5.out).1.trans (by go_simp)); have u2 : w6.frozen? ⟨w2.heap.size, 1, none⟩ = false := ((grown_cells g6 w2.heap.size 1 (by simp; omega) hne5.out).2.trans (by go_simp)); have u3 : w6.frozen? ⟨w2.heap.size, 0, none⟩ = false := ((grown_cells g6 w2.heap.size 0 (by simp; omega) hne5.out).2.trans (by go_simp)); have u4 : w6.cell? ⟨g4, k, none⟩ = some (.int .i64 y) := ((grown_cells g6 g4 k (by simp; omega) hne6.out).1.trans (by go_simp)); obtain ⟨a6, c6, e6⟩ := owns_form o6; subst e6; have O6 := hid_in o6; have G6 := hid_in g6; clear o6 g6 n6 i0 i1 i2 i3))
          all_goals
            go_wp2_with fail
            refine ⟨⟨k + 1, by omega, by simp, ?_⟩, by simp [intOf]; omega⟩
            show SI _ _ _ _ _ _
            refine ⟨(HMv.out.grownB (by go_grown) G6.out (fun k hk => (owns_own IO.out k hk).1)).poke1 _, by go_simp, by go_simp, by go_simp, .slice a6 (m + 1) c6, m + 1, by go_simp, ?_⟩
            rw [take_filter_yes hlt' (by rw [HY.out]; exact hs'), HY.out]
            exact owns_set O6.out (by omega)
        · have hs' : decide (T - 16 < y) = false := by simp; omega
          go_wp2_with fail
          go_region
          go_wp2_with fail
          refine ⟨⟨k + 1, by omega, by simp, ?_⟩, by simp [intOf]; omega⟩
          show SI _ _ _ _ _ _
          refine ⟨HMv.out.drew1, i0, i2, i3, _, m, i1, ?_⟩
          rw [take_filter_no hlt' (by rw [HY.out]; exact hs')]
          exact owns_drew IO.out
      · have hd : decide ((k : Int) < (A.length : Int)) = false := by simp; omega
        have e : k = A.length := by omega
        have HE := hid_in e
        clear hM io e
        go_wp2_with fail
        exact bodyPost_ret (v := .tuple #[.agg #[.int .i64 T, .slice a5 m c5], .int .i64 0]) (by simp [results, Tryz.results122, go_sem, q0, q1]) rfl
          (SeeL.fine (M := T) HN.out ho HM.out (by first | (rw [if_pos htop]) | (rw [if_neg (by omega)])) (by rw [HA.out]; have h := IO.out; rw [HE.out, List.take_length] at h; exact ownsW_base (owns_set (owns_set h (by omega)) (by omega)) (by omega)) (((ZB.out.trans (HMv.out.below (by omega) (by omega))).setCell (by simp) _).setCell (by simp) _))
theorem l7See_any (T n : Int) (c : Nat) (L : List Int) (v : Value) (w : World) (hL : IL w v L) (hr : Rep T c L) :
    Calls Tryz.prog 122 #[.agg #[.int .i64 T, v], .int .i64 n] w (SeeL T n L w) := by
  by_cases h1 : inB n 1 1000000 = true
  · by_cases h2 : n ≤ T - 16
    · exact l7See_old T n c L v w hL hr h1 h2
    · by_cases h3 : n ∈ L
      · exact l7See_again T n c L v w hL hr h1 h2 h3
      · exact l7See_fine T n c L v w hL hr h1 h2 h3
  · exact l7See_bad T n c L v w hL hr (by simpa using h1)
end Go.Proofs.YtefmmopkikpnhaaGreatDoor

namespace Go.Proofs.YtefmmopkikpnhaaGreatDoor
open Go.RowKit Go.LatT Go.BlockM Go.OpnT Go.WinMath
set_option linter.unusedVariables false
set_option linter.unusedSimpArgs false
/-- The numbers of a word of bits, from the oldest on, behind k of sixteen. -/
def winL (T : Int) (c : Nat) : Nat → List Int
  | 0 => []
  | k + 1 => winL T c k ++ (if c.testBit (15 - k) then [T - ((15 - k : Nat) : Int)] else [])
theorem mem_winL (T : Int) (c : Nat) (x : Int) : ∀ k, x ∈ winL T c k ↔ ∃ j, j < k ∧ c.testBit (15 - j) = true ∧ x = T - ((15 - j : Nat) : Int)
  | 0 => by simp [winL]
  | k + 1 => by
    have ih := mem_winL T c x k
    unfold winL
    rw [List.mem_append, ih]
    constructor
    · rintro (⟨j, h1, h2, h3⟩ | h)
      · exact ⟨j, by omega, h2, h3⟩
      · split at h
        · rename_i hb
          exact ⟨k, by omega, hb, by simpa using h⟩
        · simp at h
    · rintro ⟨j, h1, h2, h3⟩
      by_cases hj : j < k
      · exact .inl ⟨j, hj, h2, h3⟩
      · obtain rfl : j = k := by omega
        exact .inr (by rw [if_pos h2, h3]; simp)
theorem winL_len (T : Int) (c : Nat) : ∀ k, (winL T c k).length ≤ k
  | 0 => by simp [winL]
  | k + 1 => by
    have := winL_len T c k
    unfold winL
    rw [List.length_append]
    split <;> simp <;> omega
theorem asc_winL (T : Int) (c : Nat) : ∀ k, k ≤ 16 → (winL T c k).Pairwise (· < ·)
  | 0, _ => by simp [winL]
  | k + 1, hk => by
    have ih := asc_winL T c k (by omega)
    unfold winL
    rw [List.pairwise_append]
    refine ⟨ih, by split <;> simp, fun a ha b hb => ?_⟩
    obtain ⟨j, h1, _, h3⟩ := (mem_winL T c a k).1 ha
    split at hb
    · have hb2 : b = T - ((15 - k : Nat) : Int) := by simpa using hb
      omega
    · simp at hb
theorem asc_ext : ∀ (A B : List Int), A.Pairwise (· < ·) → B.Pairwise (· < ·) → (∀ x, x ∈ A ↔ x ∈ B) → A = B
  | [], [], _, _, _ => rfl
  | [], b :: B, _, _, h => absurd ((h b).2 (by simp)) (by simp)
  | a :: A, [], _, _, h => absurd ((h a).1 (by simp)) (by simp)
  | a :: A, b :: B, hA, hB, h => by
    have h1 := List.pairwise_cons.1 hA
    have h2 := List.pairwise_cons.1 hB
    have e : a = b := by
      rcases List.mem_cons.1 ((h a).1 (by simp)) with e | e
      · exact e
      · rcases List.mem_cons.1 ((h b).2 (by simp)) with e' | e'
        · exact e'.symm
        · have := h2.1 a e; have := h1.1 b e'; omega
    subst e
    rw [asc_ext A B h1.2 h2.2 (fun x => ?_)]
    constructor
    · intro hx
      rcases List.mem_cons.1 ((h x).1 (by simp [hx])) with e | e
      · have := h1.1 x hx; omega
      · exact e
    · intro hx
      rcases List.mem_cons.1 ((h x).2 (by simp [hx])) with e | e
      · have := h2.1 x hx; omega
      · exact e
theorem winL_rep {T : Int} {c : Nat} {L : List Int} (h : Rep T c L) : winL T c 16 = L := by
  refine asc_ext _ _ (asc_winL T c 16 (Nat.le_refl _)) h.asc (fun x => ?_)
  rw [mem_winL]
  constructor
  · rintro ⟨j, h1, h2, rfl⟩
    exact (h.bit _ (by omega)).1 h2
  · intro hx
    have hb := h.mem x hx
    refine ⟨15 - (T - x).toNat, by omega, (h.bit _ (by omega)).2 ?_, by omega⟩
    rw [show T - ((15 - (15 - (T - x).toNat) : Nat) : Int) = x by omega]
    exact hx
theorem bit_cond (c j : Nat) (hc : c < 65536) : (bits .and .u16 ((c : Int) / 2 ^ j) 1 == 1) = c.testBit j := by
  have e1 : ((c : Int) / 2 ^ j) = ((c / 2 ^ j : Nat) : Int) := by simp
  have h1 : c / 2 ^ j < 65536 := Nat.lt_of_le_of_lt (Nat.div_le_self _ _) hc
  rw [e1, show (1 : Int) = ((1 : Nat) : Int) from rfl, and_u16 _ 1 h1 (by decide), Nat.and_one_is_mod, Nat.testBit_eq_decide_div_mod_eq]
  rw [Bool.eq_iff_iff]
  simp
  omega
/-- What holds of a window that is made, behind k of sixteen. -/
def WI (B : Nat) (w4 : World) (T : Int) (c : Nat) (k : Nat) (wr : World) : Prop :=
  Mv B w4 wr ∧ wr.cell? ⟨B, 0, none⟩ = some (.int .i64 T) ∧ wr.frozen? ⟨B, 0, none⟩ = false ∧ wr.frozen? ⟨B, 1, none⟩ = false ∧
    ∃ vs m, wr.cell? ⟨B, 1, none⟩ = some vs ∧ wr.ownsRow w4.heap.size 3 1 vs m (i64s (winL T c k))
set_option maxHeartbeats 4000000 in
set_option maxRecDepth 100000 in
theorem window_any (T : Int) (c : Nat) (L : List Int) (w : World) (hr : Rep T c L) :
    Calls Tryz.prog 172 #[.agg #[.int .i64 T, .int .u16 (c : Int)]] w fun e w' => ∃ v', e = .returned (.agg #[.int .i64 T, v']) ∧ w'.ownsRow w.heap.size 3 1 v' L.length (i64s L) ∧ Below w.heap.size w w' := by
  have HR := hid_in hr
  have t0 := hr.t0; have t1 := hr.t1; have c1 := hr.lt
  clear hr
  go_enter Tryz.func172, Tryz.ntmps172
  go_wp2_with fail
  have zW : Below w.heap.size w (((w.alloc (Obj.cells #[.int .i64 T, .int .u16 (c : Int)] 197)).alloc (Obj.cells #[.int .i64 0, .slice none 0 0] 43)).alloc (Obj.cells #[.int .i64 T, .slice none 0 0] 43)) := by go_grown
  have sW : (((w.alloc (Obj.cells #[.int .i64 T, .int .u16 (c : Int)] 197)).alloc (Obj.cells #[.int .i64 0, .slice none 0 0] 43)).alloc (Obj.cells #[.int .i64 T, .slice none 0 0] 43)).heap.size = w.heap.size + 1 + 1 + 1 := by simp
  have k0 : (((w.alloc (Obj.cells #[.int .i64 T, .int .u16 (c : Int)] 197)).alloc (Obj.cells #[.int .i64 0, .slice none 0 0] 43)).alloc (Obj.cells #[.int .i64 T, .slice none 0 0] 43)).cell? ⟨w.heap.size, 0, none⟩ = some (.int .i64 T) := by go_simp
  have k1 : (((w.alloc (Obj.cells #[.int .i64 T, .int .u16 (c : Int)] 197)).alloc (Obj.cells #[.int .i64 0, .slice none 0 0] 43)).alloc (Obj.cells #[.int .i64 T, .slice none 0 0] 43)).cell? ⟨w.heap.size, 1, none⟩ = some (.int .u16 (c : Int)) := by go_simp
  have k2 : (((w.alloc (Obj.cells #[.int .i64 T, .int .u16 (c : Int)] 197)).alloc (Obj.cells #[.int .i64 0, .slice none 0 0] 43)).alloc (Obj.cells #[.int .i64 T, .slice none 0 0] 43)).cell? ⟨w.heap.size + 1, 0, none⟩ = some (.int .i64 0) := by go_simp
  have k3 : (((w.alloc (Obj.cells #[.int .i64 T, .int .u16 (c : Int)] 197)).alloc (Obj.cells #[.int .i64 0, .slice none 0 0] 43)).alloc (Obj.cells #[.int .i64 T, .slice none 0 0] 43)).cell? ⟨w.heap.size + 1, 1, none⟩ = some (.slice none 0 0) := by go_simp
  have k4 : (((w.alloc (Obj.cells #[.int .i64 T, .int .u16 (c : Int)] 197)).alloc (Obj.cells #[.int .i64 0, .slice none 0 0] 43)).alloc (Obj.cells #[.int .i64 T, .slice none 0 0] 43)).frozen? ⟨w.heap.size + 1, 0, none⟩ = false := by go_simp
  have k5 : (((w.alloc (Obj.cells #[.int .i64 T, .int .u16 (c : Int)] 197)).alloc (Obj.cells #[.int .i64 0, .slice none 0 0] 43)).alloc (Obj.cells #[.int .i64 T, .slice none 0 0] 43)).frozen? ⟨w.heap.size + 1, 1, none⟩ = false := by go_simp
  have k6 : (((w.alloc (Obj.cells #[.int .i64 T, .int .u16 (c : Int)] 197)).alloc (Obj.cells #[.int .i64 0, .slice none 0 0] 43)).alloc (Obj.cells #[.int .i64 T, .slice none 0 0] 43)).cell? ⟨w.heap.size + 1 + 1, 0, none⟩ = some (.int .i64 T) := by go_simp
  have k7 : (((w.alloc (Obj.cells #[.int .i64 T, .int .u16 (c : Int)] 197)).alloc (Obj.cells #[.int .i64 0, .slice none 0 0] 43)).alloc (Obj.cells #[.int .i64 T, .slice none 0 0] 43)).cell? ⟨w.heap.size + 1 + 1, 1, none⟩ = some (.slice none 0 0) := by go_simp
  have k8 : (((w.alloc (Obj.cells #[.int .i64 T, .int .u16 (c : Int)] 197)).alloc (Obj.cells #[.int .i64 0, .slice none 0 0] 43)).alloc (Obj.cells #[.int .i64 T, .slice none 0 0] 43)).frozen? ⟨w.heap.size + 1 + 1, 0, none⟩ = false := by go_simp
  have k9 : (((w.alloc (Obj.cells #[.int .i64 T, .int .u16 (c : Int)] 197)).alloc (Obj.cells #[.int .i64 0, .slice none 0 0] 43)).alloc (Obj.cells #[.int .i64 T, .slice none 0 0] 43)).frozen? ⟨w.heap.size + 1 + 1, 1, none⟩ = false := by go_simp
  generalize (((w.alloc (Obj.cells #[.int .i64 T, .int .u16 (c : Int)] 197)).alloc (Obj.cells #[.int .i64 0, .slice none 0 0] 43)).alloc (Obj.cells #[.int .i64 T, .slice none 0 0] 43)) = W at *
  have ZW := hid_in zW
  have K0 := hid_in k0; have K1 := hid_in k1; have K2 := hid_in k2; have K3 := hid_in k3; have K4 := hid_in k4; have K5 := hid_in k5
  have I0 : Hid (WI (w.heap.size + 1 + 1) W T c 0 W) := by show WI _ _ _ _ _ _; exact ⟨Mv.refl _ _, k6, k8, k9, _, 0, k7, World.ownsRow_nil _ _ _ _⟩
  clear k0 k1 k2 k3 k4 k5 k6 k7 k8 k9 zW
  go_loopw [4] (fun u wr => ∃ k : Nat, k ≤ 16 ∧ u = .int .i64 (15 - (k : Int)) ∧ Hid (WI (w.heap.size + 1 + 1) W T c k wr)) (fun u _ => (intOf u + 1).toNat)
  case atStart => exact ⟨0, Nat.zero_le _, rfl, I0⟩
  case round =>
    obtain ⟨k, hk, rfl, HW⟩ := hrel
    obtain ⟨hM, i0, i2, i3, vs, m, i1, io⟩ := HW.out
    have q0 := (hM.cell w.heap.size 0 (by omega) (by omega)).trans K0.out
    have q1 := (hM.cell w.heap.size 1 (by omega) (by omega)).trans K1.out
    have q2 := (hM.cell (w.heap.size + 1) 0 (by omega) (by omega)).trans K2.out
    have q3 := (hM.cell (w.heap.size + 1) 1 (by omega) (by omega)).trans K3.out
    have q4 := (hM.frozen (w.heap.size + 1) 0 (by omega) (by omega)).trans K4.out
    have q5 := (hM.frozen (w.heap.size + 1) 1 (by omega) (by omega)).trans K5.out
    have hsz := hM.size
    obtain ⟨a5, c5, rfl⟩ := owns_form io
    have hmk : m ≤ k := by rw [owns_len io]; exact winL_len T c k
    have l1 : w.heap.size + 1 + 1 < wr.heap.size := by omega
    have l2 : w.heap.size + 1 < wr.heap.size := by omega
    have l3 : w.heap.size < wr.heap.size := by omega
    have IO := hid_in io; have HMv := hid_in hM
    have SW := hid_in sW; have SZ := hid_in hsz
    clear hM io
    by_cases hlt : k < 16
    · have hd : decide (15 - (k : Int) ≥ 0) = true := by simp; omega
      have hd2 : (0 : Int) ≤ 15 - (k : Int) := by omega
      cases hbit : c.testBit (15 - k)
      · have hcond := bit_cond c (15 - k) c1
        rw [hbit] at hcond
        have HB := hid_in hbit
        clear hbit
        go_wp2_with fail
        refine ⟨⟨k + 1, by omega, by simp; omega, ?_⟩, by simp [intOf]; omega⟩
        show WI _ _ _ _ _ _
        refine ⟨HMv.out, i0, i2, i3, _, m, i1, ?_⟩
        unfold winL
        rw [if_neg (by rw [HB.out]; simp), List.append_nil]
        exact IO.out
      · have hcond := bit_cond c (15 - k) c1
        rw [hbit] at hcond
        have HB := hid_in hbit
        have hne5 : Hid ((Value.slice a5 m c5).ownBlock ≠ some (w.heap.size + 1 + 1)) := by
          show _ ≠ _
          intro h; have := (owns_own IO.out _ h).1; omega
        clear hbit
        go_wp2_with (at_builtin; refine wpI_append rfl (.tmp 19) (.tmp 24) rfl W.heap.size (.slice a5 m c5) m _ rfl (IO.out.alloc _) _ [T - (15 - (k : Int))] rfl (IL.one _ _ _) (by simp; omega) (by simp; omega) ?_; intro v6 w6 o6 g6 n6; have u1 : w6.cell? ⟨w.heap.size + 1 + 1, 1, none⟩ = some (.slice a5 m c5) := ((grown_cells g6 (w.heap.size + 1 + 1) 1 (by simp; omega) hne5.out).1.trans (by go_simp)); have u0 : w6.cell? ⟨w.heap.size + 1 + 1, 0, none⟩ = some (.int .i64 T) := ((grown_cells g6 (w.heap.size + 1 + 1) 0 (by simp; omega) hne5.out).1.trans (by go_simp)); have u2 : w6.frozen? ⟨w.heap.size + 1 + 1, 1, none⟩ = false := ((grown_cells g6 (w.heap.size + 1 + 1) 1 (by simp; omega) hne5.out).2.trans (by go_simp)); have u3 : w6.frozen? ⟨w.heap.size + 1 + 1, 0, none⟩ = false := ((grown_cells g6 (w.heap.size + 1 + 1) 0 (by simp; omega) hne5.out).2.trans (by go_simp)); obtain ⟨a6, c6, e6⟩ := owns_form o6; subst e6; have O6 := hid_in o6; have G6 := hid_in g6; clear o6 g6 n6 i0 i1 i2 i3 q0 q1 q2 q3 q4 q5)
        refine ⟨⟨k + 1, by omega, by simp; omega, ?_⟩, by simp [intOf]; omega⟩
        show WI _ _ _ _ _ _
        refine ⟨(HMv.out.grownB (by go_grown) G6.out (fun k hk => (owns_own IO.out k hk).1)).poke1 _, by go_simp, by go_simp, by go_simp, .slice a6 (m + 1) c6, m + 1, by go_simp, ?_⟩
        unfold winL
        rw [if_pos HB.out, show ((15 - k : Nat) : Int) = 15 - (k : Int) by omega]
        exact owns_set O6.out (by omega)
    · have hd : decide (15 - (k : Int) ≥ 0) = false := by simp; omega
      have hk16 : k = 16 := by omega
      subst hk16
      go_wp2_with fail
      exact bodyPost_ret (v := .agg #[.int .i64 T, .slice a5 m c5]) (by simp [results, Tryz.results172, go_sem, q2, q3]) rfl
        ⟨_, rfl, by
          have h := IO.out
          have hl := owns_len h
          rw [winL_rep HR.out] at h hl
          rw [← hl]
          exact ownsW_base (owns_set (owns_set h (by have := SW.out; omega)) (by have := SW.out; omega)) (by have := SW.out; omega), ((ZW.out.trans (HMv.out.below (by have := SW.out; omega) (by omega))).setCell (by simp) _).setCell (by simp) _⟩
end Go.Proofs.YtefmmopkikpnhaaGreatDoor

namespace Go.Proofs.YtefmmopkikpnhaaGreatDoor
open Go.RowKit Go.LatT Go.BlockM Go.OpnT Go.WinMath
set_option linter.unusedVariables false
set_option linter.unusedSimpArgs false
theorem wok_rep {t : Int} {len : Nat} {E : Nat → Int} (h : WOk t len E) : ∃ c, Rep t c (LE E len) := by
  obtain ⟨h1, h2⟩ := wok_good h
  have key : ∀ k, k ≤ len → ∃ c, Rep (topK E k) c (seenK E k) := by
    intro k
    induction k with
    | zero => exact fun _ => ⟨0, rep_nil⟩
    | succ k ih =>
      intro hk
      obtain ⟨c, hc⟩ := ih (by omega)
      have hg := fun i (hi : i < k) => h1 i (by omega)
      have h0 := topK_nonneg hg
      have hr := hc
      obtain ⟨g1, g2, g3⟩ := h1 k (by omega)
      obtain ⟨x1, x2⟩ := code_good hg hc (h1 k (by omega))
      obtain ⟨y1, _, _⟩ := rep_see (n := E k) hc (by omega) g3 (by omega) (fun hm => by have := hr.mem _ hm; omega)
      rw [x2] at y1
      exact ⟨_, y1⟩
  obtain ⟨c, hc⟩ := key len (Nat.le_refl _)
  rw [h2, wok_seen h] at hc
  exact ⟨c, hc⟩
/-- The numbers of a list, by their places. -/
def gE (L : List Int) : Nat → Int := fun i => L.getD i 0
theorem LE_gE (L : List Int) : LE (gE L) L.length = L := by
  apply List.ext_getElem
  · simp [LE]
  · intro i h1 h2
    simp [LE, gE, h2]
theorem IL.ints {w : World} {v : Value} {L : List Int} (h : IL w v L) : ∃ a cap, v = .slice a L.length cap ∧ Ints w a L.length (gE L) := by
  obtain ⟨a, cap, e, hc, h⟩ := h
  refine ⟨a, cap, e, ?_⟩
  rcases h with ⟨rfl, rfl⟩ | ⟨bb, off, e, hlt, hc⟩
  · exact .inl (by omega)
  · exact .inr ⟨bb, off, e, hlt, hc⟩
/-- The answer to a window and a number. -/
def Res (t n : Int) (L : List Int) (T' : Int) (L' : List Int) (k' : Int) : Prop :=
  (¬ WOk t L.length (gE L) ∧ T' = 0 ∧ L' = [] ∧ k' = 1) ∨ (WOk t L.length (gE L) ∧ T' = topL t L n ∧ L' = listL t L n ∧ k' = codeL t L n)
theorem Res.same {t n T1 k1 T2 k2 : Int} {L L1 L2 : List Int} (h1 : Res t n L T1 L1 k1) (h2 : Res t n L T2 L2 k2) : T1 = T2 ∧ L1 = L2 ∧ k1 = k2 := by
  rcases h1 with ⟨a, rfl, rfl, rfl⟩ | ⟨a, rfl, rfl, rfl⟩ <;> rcases h2 with ⟨b, rfl, rfl, rfl⟩ | ⟨b, rfl, rfl, rfl⟩
  · exact ⟨rfl, rfl, rfl⟩
  · exact absurd b a
  · exact absurd a b
  · exact ⟨rfl, rfl, rfl⟩
def WSee (t n : Int) (L : List Int) (w : World) (e : Ending) (w' : World) : Prop :=
  ∃ T' L' k' v', e = .returned (.tuple #[.agg #[.int .i64 T', v'], .int .i64 k']) ∧ w'.ownsRow w.heap.size 3 1 v' L'.length (i64s L') ∧ Below w.heap.size w w' ∧ Res t n L T' L' k'
theorem listL_len {T n : Int} {c : Nat} {L : List Int} (h : Rep T c L) : (listL T L n).length ≤ 16 ∧ ∃ c', Rep (topL T L n) c' (listL T L n) := by
  have key : ∃ c', Rep (topL T L n) c' (listL T L n) := by
    by_cases hc : codeL T L n = 0
    · have hc2 := hc
      unfold codeL at hc2
      split at hc2
      · simp at hc2
      · split at hc2
        · simp at hc2
        · split at hc2
          · simp at hc2
          · rename_i a b d
            obtain ⟨y, _, _⟩ := rep_see h (by omega) (by omega) (by omega) d
            exact ⟨_, y⟩
    · refine ⟨c, ?_⟩
      unfold topL listL
      rw [if_neg (fun h => hc h.1), if_neg hc]
      exact h
  obtain ⟨c', h'⟩ := key
  exact ⟨repW_len h', c', h'⟩
set_option maxHeartbeats 2000000 in
set_option maxRecDepth 100000 in
theorem windowSeeI (t n : Int) (v : Value) (L : List Int) (w : World) (hL : IL w v L) (hl : L.length ≤ 1048576) :
    Calls Tryz.prog 124 #[.agg #[.int .i64 t, v], .int .i64 n] w (WSee t n L w) := by
  have HL := hid_in hL
  obtain ⟨a, cap, rfl, hI⟩ := hL.ints
  have HI := hid_in hI
  clear hL hI
  go_enter Tryz.func124, Tryz.ntmps124
  go_wp2_with fail
  have zW : Below w.heap.size w ((w.alloc (Obj.cells #[.int .i64 t, .slice a L.length cap] 43)).alloc (Obj.cells #[.int .i64 0, .slice none 0 0] 43)) := by go_grown
  have sW : ((w.alloc (Obj.cells #[.int .i64 t, .slice a L.length cap] 43)).alloc (Obj.cells #[.int .i64 0, .slice none 0 0] 43)).heap.size = w.heap.size + 1 + 1 := by simp
  have Wc0 : ((w.alloc (Obj.cells #[.int .i64 t, .slice a L.length cap] 43)).alloc (Obj.cells #[.int .i64 0, .slice none 0 0] 43)).cell? ⟨w.heap.size, 0, none⟩ = some (.int .i64 t) := by go_simp
  have Wc1 : ((w.alloc (Obj.cells #[.int .i64 t, .slice a L.length cap] 43)).alloc (Obj.cells #[.int .i64 0, .slice none 0 0] 43)).cell? ⟨w.heap.size, 1, none⟩ = some (.slice a L.length cap) := by go_simp
  have Wc2 : ((w.alloc (Obj.cells #[.int .i64 t, .slice a L.length cap] 43)).alloc (Obj.cells #[.int .i64 0, .slice none 0 0] 43)).cell? ⟨w.heap.size + 1, 0, none⟩ = some (.int .i64 0) := by go_simp
  have Wc3 : ((w.alloc (Obj.cells #[.int .i64 t, .slice a L.length cap] 43)).alloc (Obj.cells #[.int .i64 0, .slice none 0 0] 43)).cell? ⟨w.heap.size + 1, 1, none⟩ = some (.slice none 0 0) := by go_simp
  have Wf0 : ((w.alloc (Obj.cells #[.int .i64 t, .slice a L.length cap] 43)).alloc (Obj.cells #[.int .i64 0, .slice none 0 0] 43)).frozen? ⟨w.heap.size + 1, 0, none⟩ = false := by go_simp
  have Wf1 : ((w.alloc (Obj.cells #[.int .i64 t, .slice a L.length cap] 43)).alloc (Obj.cells #[.int .i64 0, .slice none 0 0] 43)).frozen? ⟨w.heap.size + 1, 1, none⟩ = false := by go_simp
  generalize ((w.alloc (Obj.cells #[.int .i64 t, .slice a L.length cap] 43)).alloc (Obj.cells #[.int .i64 0, .slice none 0 0] 43)) = W at *
  refine (trailOf_any t a L.length cap (gE L) _ (HI.out.later zW) hl).mono ?_
  rintro e w1 ⟨T, c, v, rfl, V, hV, hb1⟩
  have xx1 := (bcell hb1).1; have xx2 := (bcell hb1).2
  replace Wc2 := (xx1 _ _ (by omega)).trans Wc2
  replace Wc3 := (xx1 _ _ (by omega)).trans Wc3
  replace Wf0 := (xx2 _ _ (by omega)).trans Wf0
  replace Wf1 := (xx2 _ _ (by omega)).trans Wf1
  clear xx1 xx2
  have zb := zW.trans (hb1.mono (show w.heap.size ≤ W.heap.size by omega))
  have s1 : w.heap.size + 1 + 1 ≤ w1.heap.size := by have := hb1.size; omega
  have m1 : w.heap.size + 1 < w1.heap.size := by omega
  have m2 : ¬ w.heap.size + 1 = w1.heap.size := by omega
  have V' := hid_in V; have ZB := hid_in zb; have HV := hid_in hV
  clear hb1 zW zb V sW hV Wc0 Wc1
  cases v
  · go_wp2_with fail
    have r0 : (((w1.setCell ⟨w.heap.size + 1, 0, none⟩ (.int .i64 0)).setCell ⟨w.heap.size + 1, 1, none⟩ (.slice none 0 0)).alloc (Obj.cells #[.int .i64 T, .int .u16 (c : Int)] 197)).cell? ⟨w.heap.size + 1, 0, none⟩ = some (.int .i64 0) := by go_simp
    have r1 : (((w1.setCell ⟨w.heap.size + 1, 0, none⟩ (.int .i64 0)).setCell ⟨w.heap.size + 1, 1, none⟩ (.slice none 0 0)).alloc (Obj.cells #[.int .i64 T, .int .u16 (c : Int)] 197)).cell? ⟨w.heap.size + 1, 1, none⟩ = some (.slice none 0 0) := by go_simp
    exact bodyPost_ret (v := .tuple #[.agg #[.int .i64 0, .slice none 0 0], .int .i64 1]) (by simp [results, Tryz.results124, go_sem, r0, r1]) rfl
      ⟨0, [], 1, _, rfl, World.ownsRow_nil _ _ _ _, (((ZB.out.setCell (show w.heap.size ≤ w.heap.size + 1 by omega) _).setCell (show w.heap.size ≤ w.heap.size + 1 by omega) _).alloc (by simp; omega) _), .inl ⟨fun h => by have := V'.out.2 h; simp at this, rfl, rfl, rfl⟩⟩
  · obtain ⟨rfl, hrep⟩ := HV.out rfl
    rw [LE_gE] at hrep
    have hw : WOk T L.length (gE L) := V'.out.1 rfl
    have HW := hid_in hw; have HC := hid_in hrep
    clear hw hrep
    go_wp2_with fail
    refine (see_any w1.heap.size T n c L _ ⟨by go_simp, by go_simp, by go_simp, by go_simp⟩ HC.out).mono ?_
    rintro e w2 ⟨c', rfl, T1, R1, M1, S1⟩
    have zb : Below w.heap.size w w2 := (ZB.out.alloc (by omega) _).trans (M1.below (by simp; omega) (by omega))
    replace Wc2 : w2.cell? ⟨w.heap.size + 1, 0, none⟩ = some (.int .i64 0) := (M1.cell (w.heap.size + 1) 0 (by simp; omega) (by omega)).trans (by go_simp)
    replace Wc3 : w2.cell? ⟨w.heap.size + 1, 1, none⟩ = some (.slice none 0 0) := (M1.cell (w.heap.size + 1) 1 (by simp; omega) (by omega)).trans (by go_simp)
    replace Wf0 : w2.frozen? ⟨w.heap.size + 1, 0, none⟩ = false := (M1.frozen (w.heap.size + 1) 0 (by simp; omega) (by omega)).trans (by go_simp)
    replace Wf1 : w2.frozen? ⟨w.heap.size + 1, 1, none⟩ = false := (M1.frozen (w.heap.size + 1) 1 (by simp; omega) (by omega)).trans (by go_simp)
    have t0 := T1.c0; have t1 := T1.c1
    have s2 : w.heap.size + 1 + 1 ≤ w2.heap.size := by have := M1.size; simp at this; omega
    have ZB2 := hid_in zb; have RR := hid_in R1
    clear zb T1 R1 M1 S1 ZB m1 m2
    go_wp2_with fail
    refine (window_any _ c' _ _ RR.out).mono ?_
    rintro e w3 ⟨v', rfl, ho, hb3⟩
    obtain ⟨a', cc, rfl⟩ := owns_form ho
    have xx1 := (bcell hb3).1; have xx2 := (bcell hb3).2
    replace Wc2 := (xx1 _ _ (by omega)).trans Wc2
    replace Wc3 := (xx1 _ _ (by omega)).trans Wc3
    replace Wf0 := (xx2 _ _ (by omega)).trans Wf0
    replace Wf1 := (xx2 _ _ (by omega)).trans Wf1
    clear xx1 xx2
    have O := hid_in ho; have B := hid_in (ZB2.out.trans (hb3.mono (show w.heap.size ≤ w2.heap.size by omega)))
    clear ho hb3 t0 t1
    go_wp2_with fail
    exact bodyPost_ret (v := .tuple #[.agg #[.int .i64 (topL T L n), .slice a' (listL T L n).length cc], .int .i64 (codeL T L n)]) (by simp [results, Tryz.results124, go_sem, Wc2, Wc3]) rfl
      ⟨_, listL T L n, _, _, rfl, ownsW_base (owns_set (owns_set O.out (by omega)) (by omega)) (by omega), (B.out.setCell (by simp) _).setCell (by simp) _, .inr ⟨HW.out, rfl, rfl, rfl⟩⟩
end Go.Proofs.YtefmmopkikpnhaaGreatDoor

namespace Go.Proofs.YtefmmopkikpnhaaGreatDoor
open Go.RowKit Go.LatT Go.BlockM Go.OpnT Go.WinMath
set_option linter.unusedVariables false
set_option linter.unusedSimpArgs false
/-- Numbers that count on. -/
def upFrom (k : Int) (n : Nat) : List Int := (List.range n).map fun i : Nat => k + (i : Int)
theorem upFrom_len (k : Int) (n : Nat) : (upFrom k n).length = n := by simp [upFrom]
theorem upFrom_succ (k : Int) (n : Nat) : upFrom k (n + 1) = upFrom k n ++ [k + (n : Int)] := by simp [upFrom, List.range_succ]
theorem upFrom_get (k : Int) (n i : Nat) (h : i < n) : (upFrom k n).getD i 0 = k + (i : Int) := by simp [upFrom, h]
theorem mark_step (k : Int) (L : List Int) (i : Nat) (hi : i < L.length) : (i64s (upFrom k i ++ L.drop i)).set i (.int .i64 (k + (i : Int))) = i64s (upFrom k (i + 1) ++ L.drop (i + 1)) := by
  rw [List.drop_eq_getElem_cons hi, upFrom_succ]
  have h := upFrom_len k i
  simp only [i64s, List.map_append, List.map_cons, List.append_assoc, List.singleton_append]
  rw [List.set_append_right _ _ (by rw [List.length_map, h]; exact Nat.le_refl _)]
  simp [h]
theorem IRow.owns {w : World} {b n base : Nat} {E : Nat → Int} (h : IRow w b n E) (hb : base ≤ b) (hn : n ≤ maxLen) : w.ownsRow base 3 1 (.slice (some ⟨b, 0, none⟩) n n) n (i64s (LE E n)) := by
  obtain ⟨c, h1, h2, h3⟩ := h
  refine ⟨by simp [i64s, LE], .inr ⟨b, n, c, rfl, hb, h1, Nat.le_refl _, hn, by omega, ?_⟩⟩
  have hl : c.toList.length = n := by simpa using h2
  rw [Nat.mul_one, List.take_of_length_le (by omega)]
  apply List.ext_getElem?
  intro i
  by_cases hi : i < n
  · rw [show c.toList[i]? = c[i]? by simp, h3 i hi]
    simp [i64s, LE, hi]
  · rw [List.getElem?_eq_none (by omega), List.getElem?_eq_none (by simp [i64s, LE]; omega)]
set_option maxHeartbeats 2000000 in
set_option maxRecDepth 100000 in
theorem mark_any (base : Nat) (v : Value) (L : List Int) (k : Int) (w : World) (ho : w.ownsRow base 3 1 v L.length (i64s L)) (hl : L.length ≤ 1048576) (h0 : 0 ≤ k) (h1 : k ≤ 1048576) :
    Calls Tryz.prog 120 #[v, .int .i64 k] w fun e w' => e = .returned (.int .i64 (k + L.length)) ∧ w'.ownsRow base 3 1 v L.length (i64s (upFrom k L.length)) ∧ w.grownBy w' v.ownBlock := by
  by_cases hv : v = .slice none 0 0
  · have hz : L.length = 0 := by
      subst hv
      rcases ho.2 with ⟨_, h⟩ | ⟨_, _, _, h, _⟩
      · exact h
      · simp at h
    obtain rfl : L = [] := List.length_eq_zero_iff.1 hz
    subst hv
    have HO := hid_in ho
    clear ho
    go_enter Tryz.func120, Tryz.ntmps120
    go_wp2_with fail
    refine wp_loop_rounds 1 ?_
    rw [rounds_succ]
    go_wp2_with fail
    go_ret
    exact ⟨by simp, by simpa [upFrom] using HO.out, World.grownBy.refl _ _⟩
  · obtain ⟨g, cap, rfl, e1, e2, e3, e4, e5⟩ := owns_some ho hv
    have HO := hid_in ho
    clear ho e5
    go_enter Tryz.func120, Tryz.ntmps120
    go_wp2_with fail
    go_loopw [1, 5] (fun u1 u2 wr => ∃ i : Nat, i ≤ L.length ∧ u1 = .int .i64 (k + (i : Int)) ∧ u2 = .int .i64 (i : Int) ∧ Hid (wr.ownsRow base 3 1 (.slice (some ⟨g, 0, none⟩) L.length cap) L.length (i64s (upFrom k i ++ L.drop i)) ∧ w.grownBy wr (some g))) (fun u1 u2 _ => L.length - (intOf u2).toNat)
    case atStart => exact ⟨0, Nat.zero_le _, by simp, rfl, by show _ ∧ _; exact ⟨by simpa [upFrom] using HO.out, World.grownBy.refl _ _⟩⟩
    case round =>
      obtain ⟨i, hi, rfl, rfl, HW⟩ := hrel
      obtain ⟨io, ig⟩ := HW.out
      have hfz := io.frozenAt i
      have hgl : g < wr.heap.size := (owns_own io g rfl).2
      have IO := hid_in io; have IG := hid_in ig
      by_cases hlt : i < L.length
      · have hd : (i : Int) < (L.length : Int) := by omega
        obtain ⟨uu, hc⟩ : ∃ uu, wr.cell? ⟨g, i, none⟩ = some uu := by
          rw [io.cellAt i (by omega)]
          exact ⟨_, List.getElem?_eq_getElem (by rw [i64s_len, List.length_append, upFrom_len, List.length_drop]; omega)⟩
        clear io ig
        go_wp2_with fail
        refine ⟨⟨i + 1, by omega, by simp; omega, by simp, ?_⟩, by simp [intOf]; omega⟩
        show _ ∧ _
        obtain ⟨a1, a2⟩ := IO.out.stored i (.int .i64 (k + (i : Int)))
        rw [mark_step k L i hlt] at a1
        exact ⟨a1, ⟨a2.os.trans IG.out.os, a2.tape.trans IG.out.tape, a2.output.trans IG.out.output, Nat.le_trans IG.out.size a2.size, fun j hj hne => (a2.block j (Nat.lt_of_lt_of_le hj IG.out.size) hne).trans (IG.out.block j hj hne)⟩⟩
      · have hd : decide ((i : Int) < (L.length : Int)) = false := by simp; omega
        have e : i = L.length := by omega
        have HE := hid_in e
        clear io ig e
        go_wp2_with fail
        go_ret
        refine ⟨ret_int (by rw [HE.out]), ?_, IG.out⟩
        have h := IO.out
        rw [HE.out, List.drop_length, List.append_nil] at h
        exact h
set_option maxHeartbeats 2000000 in
set_option maxRecDepth 100000 in
theorem held_any (base : Nat) (v : Value) (n : Nat) (k : Int) (w : World) (ho : w.ownsRow base 3 1 v n (i64s (upFrom k n))) (hl : n ≤ 1048576) (h0 : 0 ≤ k) (h1 : k ≤ 1048576) :
    Calls Tryz.prog 121 #[v, .int .i64 k] w fun e w' => e = .returned (.int .i64 (k + n)) ∧ Below w.heap.size w w' := by
  by_cases hv : v = .slice none 0 0
  · have hz : n = 0 := by
      subst hv
      rcases ho.2 with ⟨_, h⟩ | ⟨_, _, _, h, _⟩
      · exact h
      · simp at h
    subst hv hz
    clear ho
    go_enter Tryz.func121, Tryz.ntmps121
    go_wp2_with fail
    refine wp_loop_rounds 1 ?_
    rw [rounds_succ]
    go_wp2_with fail
    go_ret
    exact ⟨by simp, Below.refl _ _⟩
  · obtain ⟨g, cap, rfl, e1, e2, e3, e4, e5⟩ := owns_some ho hv
    rw [upFrom_len] at e5
    have E5 := hid_in e5
    rw [upFrom_len]
    clear ho e5 hv
    go_enter Tryz.func121, Tryz.ntmps121
    go_wp2_with fail
    go_loopw [1, 5] (fun u1 u2 wr => ∃ i : Nat, i ≤ n ∧ u1 = .int .i64 (k + (i : Int)) ∧ u2 = .int .i64 (i : Int) ∧ Hid (Below w.heap.size w wr)) (fun u1 u2 _ => n - (intOf u2).toNat)
    case atStart => exact ⟨0, Nat.zero_le _, by simp, rfl, by show Below _ _ _; exact Below.refl _ _⟩
    case round =>
      obtain ⟨i, hi, rfl, rfl, HW⟩ := hrel
      by_cases hlt : i < n
      · have hd : (i : Int) < (n : Int) := by omega
        have g0 := ((bcell HW.out).1 g (0 + i) e2).trans (E5.out i hlt)
        rw [Nat.zero_add, upFrom_get k n i hlt] at g0
        go_wp2_with fail
        refine ⟨⟨i + 1, by omega, by simp; omega, by simp, HW⟩, by simp [intOf]; omega⟩
      · have hd : decide ((i : Int) < (n : Int)) = false := by simp; omega
        have e : i = n := by omega
        have HE := hid_in e
        clear e
        go_wp2_with fail
        go_ret
        exact ⟨ret_int (by rw [HE.out]), HW.out⟩
end Go.Proofs.YtefmmopkikpnhaaGreatDoor

namespace Go.Proofs.YtefmmopkikpnhaaGreatDoor
open Go.RowKit Go.LatT Go.BlockM Go.OpnT Go.WinMath
set_option linter.unusedVariables false
set_option linter.unusedSimpArgs false
theorem IRow.il {w : World} {b n : Nat} {E : Nat → Int} (h : IRow w b n E) (hn : n ≤ 1048576) : IL w (.slice (some ⟨b, 0, none⟩) n n) (LE E n) :=
  IL.of_owns (h.owns (Nat.zero_le b) (by unfold maxLen; omega)) (by simp [LE])
theorem Res.len {t n T' k' : Int} {L L' : List Int} (h : Res t n L T' L' k') : L'.length ≤ 16 := by
  rcases h with ⟨_, _, rfl, _⟩ | ⟨hw, _, rfl, _⟩
  · simp
  · obtain ⟨c, hc⟩ := wok_rep hw
    rw [LE_gE] at hc
    exact (listL_len hc).1
theorem WBox.grown {w w' : World} {g : Nat} {t : Int} {v : Value} {row : Option Nat} (h : WBox w g t v) (hg : w.grownBy w' row) (hr : row ≠ some g) : WBox w' g t v :=
  ⟨Nat.lt_of_lt_of_le h.lt hg.size, by rw [(grown_cells hg g 0 h.lt hr).1]; exact h.c0, by rw [(grown_cells hg g 1 h.lt hr).1]; exact h.c1⟩
theorem grown_box {w w' : World} {o : Obj} {row : Option Nat} (hg : (w.alloc o).grownBy w' row) : w.grownBy w' row :=
  ⟨hg.os, hg.tape, hg.output, Nat.le_trans (by simp) hg.size, fun k hk hr => (hg.block k (by simp; omega) hr).trans ((below_box w o).block k hk)⟩
set_option maxHeartbeats 1000000 in
set_option maxRecDepth 100000 in
theorem markW_any (t : Int) (base : Nat) (v : Value) (L : List Int) (k : Int) (w : World) (ho : w.ownsRow base 3 1 v L.length (i64s L)) (hl : L.length ≤ 1048576) (h0 : 0 ≤ k) (h1 : k ≤ 1048576) :
    Calls Tryz.prog 71 #[.agg #[.int .i64 t, v], .int .i64 k] w fun e w' => e = .returned (.int .i64 (k + L.length)) ∧ w'.ownsRow base 3 1 v L.length (i64s (upFrom k L.length)) ∧ w.grownBy w' v.ownBlock := by
  have HO := hid_in ho
  obtain ⟨a, c, rfl⟩ := owns_form ho
  clear ho
  go_enter Tryz.func71, Tryz.ntmps71
  go_wp2_with fail
  refine (mark_any base _ L k _ (HO.out.alloc _) hl h0 h1).mono ?_
  rintro e w1 ⟨rfl, o1, g1⟩
  have O := hid_in o1; have G := hid_in (grown_box g1)
  clear o1 g1
  go_wp2_with fail
  go_ret
  exact ⟨rfl, O.out, G.out⟩
set_option maxHeartbeats 1000000 in
set_option maxRecDepth 100000 in
theorem heldW_any (t : Int) (base : Nat) (v : Value) (n : Nat) (k : Int) (w : World) (ho : w.ownsRow base 3 1 v n (i64s (upFrom k n))) (hl : n ≤ 1048576) (h0 : 0 ≤ k) (h1 : k ≤ 1048576) :
    Calls Tryz.prog 72 #[.agg #[.int .i64 t, v], .int .i64 k] w fun e w' => e = .returned (.int .i64 (k + n)) ∧ Below w.heap.size w w' := by
  have HO := hid_in ho
  obtain ⟨a, c, rfl⟩ := owns_form ho
  have hk : decide (k + (n : Int) < 0) = false := by simp; omega
  clear ho
  go_enter Tryz.func72, Tryz.ntmps72
  go_wp2_with fail
  refine (held_any base _ n k _ (HO.out.alloc _) hl h0 h1).mono ?_
  rintro e w1 ⟨rfl, hb1⟩
  have B := hid_in (below_later (below_box w _) hb1)
  clear hb1
  go_wp2_with fail
  go_ret
  exact ⟨rfl, B.out⟩
/-- What lies where, while the answers are held against each other. -/
structure WSt (w : World) (t T' : Int) (aV sv gv xv : Value) (L' GL XL : List Int) (B D X G b0 b1 b2 : Nat) (x : World) : Prop where
  z : Below w.heap.size w x
  a : WBox x B t aV
  d : WBox x D T' sv
  bx : WBox x X t xv
  g : WBox x G T' gv
  os : x.ownsRow b0 3 1 sv L'.length (i64s L')
  og : x.ownsRow b1 3 1 gv GL.length (i64s GL)
  ox : x.ownsRow b2 3 1 xv XL.length (i64s XL)
theorem WSt.later {w x y : World} {t T' : Int} {aV sv gv xv : Value} {L' GL XL : List Int} {B D X G b0 b1 b2 : Nat} (h : WSt w t T' aV sv gv xv L' GL XL B D X G b0 b1 b2 x) (hb : Below x.heap.size x y) : WSt w t T' aV sv gv xv L' GL XL B D X G b0 b1 b2 y :=
  ⟨below_later h.z hb, h.a.later hb, h.d.later hb, h.bx.later hb, h.g.later hb, owns_below h.os hb, owns_below h.og hb, owns_below h.ox hb⟩
theorem WSt.drew {w x : World} {t T' : Int} {aV sv gv xv : Value} {L' GL XL : List Int} {B D X G b0 b1 b2 : Nat} (h : WSt w t T' aV sv gv xv L' GL XL B D X G b0 b1 b2 x) : WSt w t T' aV sv gv xv L' GL XL B D X G b0 b1 b2 x.drew :=
  ⟨h.z.drew, ⟨h.a.lt, h.a.c0, h.a.c1⟩, ⟨h.d.lt, h.d.c0, h.d.c1⟩, ⟨h.bx.lt, h.bx.c0, h.bx.c1⟩, ⟨h.g.lt, h.g.c0, h.g.c1⟩, h.os, h.og, h.ox⟩
theorem WSt.markX {w x y : World} {t T' : Int} {aV sv gv xv : Value} {L' GL XL XL' : List Int} {B D X G b0 b1 b2 : Nat} (h : WSt w t T' aV sv gv xv L' GL XL B D X G b0 b1 b2 x) (hg : x.grownBy y xv.ownBlock) (ho : y.ownsRow b2 3 1 xv XL'.length (i64s XL'))
    (hw : w.heap.size ≤ b2) (hn : ∀ k, xv.ownBlock = some k → k ≠ B ∧ k ≠ D ∧ k ≠ X ∧ k ≠ G ∧ sv.ownBlock ≠ some k ∧ gv.ownBlock ≠ some k) : WSt w t T' aV sv gv xv L' GL XL' B D X G b0 b1 b2 y := by
  have z := Below.grown h.z hg h.z.size (fun k hk => Nat.le_trans hw (owns_own h.ox k hk).1)
  refine ⟨z, h.a.grown hg (fun e => (hn _ e).1 rfl), h.d.grown hg (fun e => (hn _ e).2.1 rfl), h.bx.grown hg (fun e => (hn _ e).2.2.1 rfl), h.g.grown hg (fun e => (hn _ e).2.2.2.1 rfl), h.os.kept hg ?_, h.og.kept hg ?_, ho⟩
  · cases e : sv.ownBlock with
    | none => exact .inl rfl
    | some k => exact .inr (fun e2 => (hn k e2.symm).2.2.2.2.1 e)
  · cases e : gv.ownBlock with
    | none => exact .inl rfl
    | some k => exact .inr (fun e2 => (hn k e2.symm).2.2.2.2.2 e)
theorem WSt.markG {w x y : World} {t T' : Int} {aV sv gv xv : Value} {L' GL GL' XL : List Int} {B D X G b0 b1 b2 : Nat} (h : WSt w t T' aV sv gv xv L' GL XL B D X G b0 b1 b2 x) (hg : x.grownBy y gv.ownBlock) (ho : y.ownsRow b1 3 1 gv GL'.length (i64s GL'))
    (hw : w.heap.size ≤ b1) (hn : ∀ k, gv.ownBlock = some k → k ≠ B ∧ k ≠ D ∧ k ≠ X ∧ k ≠ G ∧ sv.ownBlock ≠ some k ∧ xv.ownBlock ≠ some k) : WSt w t T' aV sv gv xv L' GL' XL B D X G b0 b1 b2 y := by
  have z := Below.grown h.z hg h.z.size (fun k hk => Nat.le_trans hw (owns_own h.og k hk).1)
  refine ⟨z, h.a.grown hg (fun e => (hn _ e).1 rfl), h.d.grown hg (fun e => (hn _ e).2.1 rfl), h.bx.grown hg (fun e => (hn _ e).2.2.1 rfl), h.g.grown hg (fun e => (hn _ e).2.2.2.1 rfl), h.os.kept hg ?_, ho, h.ox.kept hg ?_⟩
  · cases e : sv.ownBlock with
    | none => exact .inl rfl
    | some k => exact .inr (fun e2 => (hn k e2.symm).2.2.2.2.1 e)
  · cases e : xv.ownBlock with
    | none => exact .inl rfl
    | some k => exact .inr (fun e2 => (hn k e2.symm).2.2.2.2.2 e)
theorem owns_il {w : World} {base : Nat} {v : Value} {L : List Int} (h : w.ownsRow base 3 1 v L.length (i64s L)) : IL w v L := IL.of_owns h rfl
end Go.Proofs.YtefmmopkikpnhaaGreatDoor

