/- What is proved: the contracts of WinI, WinJ, WinK, MrkA, WinL, one behind the other. The conditions stand at each theorem. -/
import Derived.Test.YtefmmopkikpnhaaGreatDoorGWnB
import Derived.Deep.RegionLaw
import Derived.Test.YtefmmopkikpnhaaGreatDoorGWin
namespace Go.Proofs.YtefmmopkikpnhaaGreatDoor
open Go.RowKit Go.LatT Go.BlockM Go.OpnT Go.WinMath
set_option linter.unusedVariables false
set_option linter.unusedSimpArgs false
/-- What holds of a list that is cut while it is read: behind k of it. -/
def SI (B : Nat) (w4 : World) (M : Int) (A : List Int) (k : Nat) (wr : World) : Prop :=
  Mv B w4 wr ∧ wr.cell? ⟨B, 0, none⟩ = some (.int .i64 M) ∧ wr.frozen? ⟨B, 0, none⟩ = false ∧ wr.frozen? ⟨B, 1, none⟩ = false ∧
    ∃ vs m, wr.cell? ⟨B, 1, none⟩ = some vs ∧ wr.ownsRow w4.heap.size 3 1 vs m (i64s ((A.take k).filter fun x => decide (M - 16 < x)))
theorem take_filter_no {A : List Int} {k : Nat} {p : Int → Bool} (hk : k < A.length) (h : p (A.getD k 0) = false) : (A.take (k + 1)).filter p = (A.take k).filter p := by
  rw [List.take_add_one, List.filter_append]
  have : A[k]? = some (A.getD k 0) := by simp [hk]
  rw [this, Option.toList_some, List.filter_cons, h]
  simp
theorem take_filter_yes {A : List Int} {k : Nat} {p : Int → Bool} (hk : k < A.length) (h : p (A.getD k 0) = true) : (A.take (k + 1)).filter p = (A.take k).filter p ++ [A.getD k 0] := by
  rw [List.take_add_one, List.filter_append]
  have : A[k]? = some (A.getD k 0) := by simp [hk]
  rw [this, Option.toList_some, List.filter_cons, h]
  simp
theorem Mv.grownB {B : Nat} {w4 wr w5 w6 : World} {row : Option Nat} (h : Mv B w4 wr) (hb : Below wr.heap.size wr w5) (hg : w5.grownBy w6 row) (hr : ∀ k, row = some k → w4.heap.size ≤ k) : Mv B w4 w6 := by
  have h2 := h.trans (Mv.of_below hb)
  refine ⟨hg.os.trans h2.os, hg.tape.trans h2.tape, hg.output.trans h2.output, Nat.le_trans h2.size hg.size, fun k hk hB => ?_⟩
  exact (hg.block k (Nat.lt_of_lt_of_le hk h2.size) (fun e => by have := hr k e.symm; omega)).trans (h2.block k hk hB)
theorem SeeL.fine {T n M : Int} {L : List Int} {w w' : World} {v' : Value} {m : Nat} (hn : inB n 1 1000000 = true) (ho : T - 16 < n) (hm : n ∉ L) (hM : (if T < n then n else T) = M)
    (hown : w'.ownsRow w.heap.size 3 1 v' m (i64s ((ins n L).filter fun x => decide (M - 16 < x)))) (hb : Below w.heap.size w w') : SeeL T n L w (.returned (.tuple #[.agg #[.int .i64 M, v'], .int .i64 0])) w' := by
  have hc : codeL T L n = 0 := by
    unfold codeL
    rw [if_neg (by simp [inB] at hn; omega), if_neg (by omega), if_neg hm]
  have ht : topL T L n = M := by
    unfold topL
    rw [hc, ← hM]
    simp
  exact ⟨v', m, by rw [hc, ht], by unfold listL; rw [if_pos hc, ht]; exact hown, hb⟩
set_option maxHeartbeats 4000000 in
set_option maxRecDepth 100000 in
theorem l7See_fine (T n : Int) (c : Nat) (L : List Int) (v : Value) (w : World) (hL : IL w v L) (hr : Rep T c L) (hn : inB n 1 1000000 = true) (ho : ¬ n ≤ T - 16) (hm : n ∉ L) :
    Calls Tryz.prog 122 #[.agg #[.int .i64 T, v], .int .i64 n] w (SeeL T n L w) := by
  have HL := hid_in hL; have HR := hid_in hr
  have t0 := hr.t0; have t1 := hr.t1
  obtain ⟨a, cap, rfl⟩ := hL.form
  have HN := hid_in hn; have HM := hid_in hm
  clear hL hn hr hm
  go_enter Tryz.func122, Tryz.ntmps122
  go_wp2_with fail
  refine (l1InW n _ true HN.out).mono ?_
  rintro e w' ⟨rfl, rfl⟩
  go_wp2_with fail
  have zW : Below w.heap.size w ((w.alloc (Obj.cells #[.int .i64 T, .slice a L.length cap] 43)).alloc (Obj.cells #[.int .i64 0, .slice none 0 0] 43)) := by go_grown
  have sW : ((w.alloc (Obj.cells #[.int .i64 T, .slice a L.length cap] 43)).alloc (Obj.cells #[.int .i64 0, .slice none 0 0] 43)).heap.size = w.heap.size + 1 + 1 := heapSize2 _ _ _
  have k0 : ((w.alloc (Obj.cells #[.int .i64 T, .slice a L.length cap] 43)).alloc (Obj.cells #[.int .i64 0, .slice none 0 0] 43)).cell? ⟨w.heap.size + 1, 0, none⟩ = some (.int .i64 0) := by go_simp
  have k1 : ((w.alloc (Obj.cells #[.int .i64 T, .slice a L.length cap] 43)).alloc (Obj.cells #[.int .i64 0, .slice none 0 0] 43)).cell? ⟨w.heap.size + 1, 1, none⟩ = some (.slice none 0 0) := by go_simp
  have k2 : ((w.alloc (Obj.cells #[.int .i64 T, .slice a L.length cap] 43)).alloc (Obj.cells #[.int .i64 0, .slice none 0 0] 43)).frozen? ⟨w.heap.size + 1, 0, none⟩ = false := by go_simp
  have k3 : ((w.alloc (Obj.cells #[.int .i64 T, .slice a L.length cap] 43)).alloc (Obj.cells #[.int .i64 0, .slice none 0 0] 43)).frozen? ⟨w.heap.size + 1, 1, none⟩ = false := by go_simp
  have k4 : ((w.alloc (Obj.cells #[.int .i64 T, .slice a L.length cap] 43)).alloc (Obj.cells #[.int .i64 0, .slice none 0 0] 43)).cell? ⟨w.heap.size, 0, none⟩ = some (.int .i64 T) := by go_simp
  have k5 : ((w.alloc (Obj.cells #[.int .i64 T, .slice a L.length cap] 43)).alloc (Obj.cells #[.int .i64 0, .slice none 0 0] 43)).cell? ⟨w.heap.size, 1, none⟩ = some (.slice a L.length cap) := by go_simp
  generalize ((w.alloc (Obj.cells #[.int .i64 T, .slice a L.length cap] 43)).alloc (Obj.cells #[.int .i64 0, .slice none 0 0] 43)) = W at *
  refine (l7Had_any T n _ L _ (HL.out.later zW) (by have := repW_len HR.out; omega) false (decide_eq_false HM.out)).mono ?_
  rintro e w2 ⟨rfl, hb2⟩
  obtain ⟨x1, x2⟩ := bcell hb2
  replace k0 := (x1 _ _ (by omega)).trans k0
  replace k1 := (x1 _ _ (by omega)).trans k1
  replace k2 := (x2 _ _ (by omega)).trans k2
  replace k3 := (x2 _ _ (by omega)).trans k3
  replace k4 := (x1 _ _ (by omega)).trans k4
  replace k5 := (x1 _ _ (by omega)).trans k5
  replace zW := zW.trans (hb2.mono (show w.heap.size ≤ W.heap.size by omega))
  have s2 : w.heap.size + 1 + 1 ≤ w2.heap.size := by have := hb2.size; omega
  have m1 : w.heap.size < w2.heap.size := by omega
  have m2 : w.heap.size + 1 < w2.heap.size := by omega
  have m3 : ¬ w.heap.size = w2.heap.size := by omega
  have m4 : ¬ w.heap.size + 1 = w2.heap.size := by omega
  clear x1 x2 hb2 sW
  have hlen := repW_len HR.out
  have nb0 : 1 ≤ n := by have h := HN.out; simp [inB] at h; omega
  have nb1 : n ≤ 1000000 := by have h := HN.out; simp [inB] at h; omega
  by_cases htop : T < n
  · go_wp2_with (at_builtin; refine wpI_append rfl (.tmp 38) (.tmp 40) rfl (w2.heap.size + 1) (.slice (some ⟨w2.heap.size + 1, 0, none⟩) 0 0) 0 [] rfl (by first | exact owns_nil_lit 3 (by simp) | (have h := owns_nil_lit (w := w2.alloc (Obj.cells #[.int .i64 n, .slice none 0 0] 43)) (base := w2.heap.size + 1) 3 (by simp); rw [heapSize1] at h; exact h)) _ L rfl (HL.out.later (by go_grown)) (by omega) (by simp; try omega) ?_; intro v3 w3 o3 g3 n3)
    simp only [List.nil_append, Nat.zero_add] at o3
    obtain ⟨g, cp, rfl, hg1, hg2, hg3, hg4, hg5⟩ := owns_some o3 (n3 (by simp))
    have b3 : Below (w2.heap.size + 1) (w2.alloc (Obj.cells #[.int .i64 n, .slice none 0 0] 43)) w3 := by
      have h1 : Below (w2.heap.size + 1) (w2.alloc (Obj.cells #[.int .i64 n, .slice none 0 0] 43)) ((w2.alloc (Obj.cells #[.int .i64 n, .slice none 0 0] 43)).alloc (Obj.cells #[] 3)) := by
        have := below_box (w2.alloc (Obj.cells #[.int .i64 n, .slice none 0 0] 43)) (Obj.cells #[] 3)
        rw [heapSize1] at this; exact this
      refine h1.trans (grown_below g3 (by simp) (fun k hk => ?_))
      have hk2 : some (w2.heap.size + 1) = some k := hk
      have := Option.some.inj hk2
      omega
    obtain ⟨x1, x2⟩ := bcellB b3
    have j0 : w3.cell? ⟨w2.heap.size, 0, none⟩ = some (.int .i64 n) := by rw [x1 _ _ (by omega)]; go_simp
    have j1 : w3.cell? ⟨w2.heap.size, 1, none⟩ = some (.slice none 0 0) := by rw [x1 _ _ (by omega)]; go_simp
    have j2 : w3.frozen? ⟨w2.heap.size, 0, none⟩ = false := by rw [x2 _ _ (by omega)]; go_simp
    have j3 : w3.frozen? ⟨w2.heap.size, 1, none⟩ = false := by rw [x2 _ _ (by omega)]; go_simp
    have zB : Below w.heap.size w w3 := zW.trans ((below_box w2 _).mono (by omega) |>.trans (b3.mono (by omega)))
    have zB2 : Below w2.heap.size w2 w3 := (below_box w2 _).trans (b3.mono (by omega))
    obtain ⟨y1, y2⟩ := bcell zB2
    replace k0 := (y1 _ _ m2).trans k0
    replace k1 := (y1 _ _ m2).trans k1
    replace k2 := (y2 _ _ m2).trans k2
    replace k3 := (y2 _ _ m2).trans k3
    have s3 : w2.heap.size + 1 ≤ w3.heap.size := by have := b3.size; simp at this; omega
    clear x1 x2 y1 y2 o3 g3 n3 k4 k5 b3 zB2 zW
    refine (l3Num_any n g 0 cp L w3 hg3 hg4 hg2 hg5 (by omega) HM.out).mono ?_
    rintro e w4 ⟨v4, rfl, o4, hb4⟩
    obtain ⟨x1, x2⟩ := bcell hb4
    replace k0 := (x1 _ _ (by omega)).trans k0
    replace k1 := (x1 _ _ (by omega)).trans k1
    replace k2 := (x2 _ _ (by omega)).trans k2
    replace k3 := (x2 _ _ (by omega)).trans k3
    replace j0 := (x1 _ _ (by omega)).trans j0
    replace j1 := (x1 _ _ (by omega)).trans j1
    replace j2 := (x2 _ _ (by omega)).trans j2
    replace j3 := (x2 _ _ (by omega)).trans j3
    replace zB := zB.trans (hb4.mono (show w.heap.size ≤ w3.heap.size by omega))
    have s4 : w2.heap.size + 1 ≤ w4.heap.size := by have := hb4.size; omega
    have hlin := owns_len o4
    obtain ⟨g4, c4, rfl, hq1, hq2, hq3, hq4, hq5⟩ := owns_some o4 (by rintro rfl; obtain ⟨_, h | ⟨_, _, _, h, _⟩⟩ := o4 <;> simp at h)
    have Q5 := hid_in hq5; have ZB := hid_in zB; have K0 := hid_in k0; have K1 := hid_in k1; have K2 := hid_in k2; have K3 := hid_in k3
    have I0 : Hid (SI w2.heap.size w4 n (ins n L) 0 w4) := by show SI _ _ _ _ _ _; exact ⟨Mv.refl _ _, j0, j2, j3, _, 0, j1, World.ownsRow_nil _ _ _ _⟩
    clear x1 x2 hb4 o4 hg1 hg2 hg3 hg4 hg5 k0 k1 k2 k3 j0 j1 j2 j3 hq5 zB
    generalize hA : ins n L = A at *
    have HA := hid_in hA
    clear hA
    go_wp2_with fail
    go_loopw [8] (fun u wr => ∃ k : Nat, k ≤ A.length ∧ u = .int .i64 (k : Int) ∧ Hid (SI w2.heap.size w4 n A k wr)) (fun u _ => A.length - (intOf u).toNat)
    case atStart => exact ⟨0, Nat.zero_le _, rfl, I0⟩
    case round =>
      obtain ⟨k, hk, rfl, HW⟩ := hrel
      obtain ⟨hM, i0, i2, i3, vs, m, i1, io⟩ := HW.out
      have hge : ¬ g4 = w2.heap.size := by omega
      have q0 := (hM.cell (w.heap.size + 1) 0 (by omega) (by omega)).trans K0.out
      have q1 := (hM.cell (w.heap.size + 1) 1 (by omega) (by omega)).trans K1.out
      have q2 := (hM.frozen (w.heap.size + 1) 0 (by omega) (by omega)).trans K2.out
      have q3 := (hM.frozen (w.heap.size + 1) 1 (by omega) (by omega)).trans K3.out
      have hsz := hM.size
      obtain ⟨a5, c5, rfl⟩ := owns_form io
      have hmk : m ≤ k := by rw [owns_len io]; exact Nat.le_trans (List.length_filter_le _ _) (by rw [List.length_take]; omega)
      have l1 : w2.heap.size < wr.heap.size := by omega
      have l2 : w.heap.size + 1 < wr.heap.size := by omega
      have l3 : g4 < wr.heap.size := by omega
      have IO := hid_in io; have HMv := hid_in hM
      by_cases hlt' : k < A.length
      · have hd : (k : Int) < (A.length : Int) := by omega
        have g0 := (hM.cell g4 (0 + k) hq2 hge).trans (Q5.out k hlt')
        rw [Nat.zero_add] at g0
        generalize hy : A.getD k 0 = y at g0
        have HY := hid_in hy
        clear hy hM io
        by_cases hs : n - 16 < y
        · have hs' : decide (n - 16 < y) = true := by simp; omega
          have hne5 : Hid ((Value.slice a5 m c5).ownBlock ≠ some w2.heap.size) := by
            show _ ≠ _
            intro h; have := (owns_own IO.out _ h).1; omega
          have hne6 : Hid ((Value.slice a5 m c5).ownBlock ≠ some g4) := by
            show _ ≠ _
            intro h; have := (owns_own IO.out _ h).1; omega
          go_wp2_with fail
          go_region
          go_wp2_with fail
          go_region_law (first | (refine stepI_append rfl (.tmp 59) (.tmp 64) rfl w4.heap.size (.slice a5 m c5) m _ rfl (by first | exact IO.out.alloc _ | exact (owns_drew IO.out).alloc _) _ [y] rfl (by first | exact IL.one _ _ _) (by simp; omega) (by simp; omega) ?_; intro v6 w6 o6 g6 n6; have u1 : w6.cell? ⟨w2.heap.size, 1, none⟩ = some (.slice a5 m c5) := ((grown_cells g6 w2.heap.size 1 (by simp; omega) hne5.out).1.trans (by go_simp)); have u0 : w6.cell? ⟨w2.heap.size, 0, none⟩ = some (.int .i64 n) := ((grown_cells g6 w2.heap.size 0 (by simp; omega) hne5.out).1.trans (by go_simp)); have u2 : w6.frozen? ⟨w2.heap.size, 1, none⟩ = false := ((grown_cells g6 w2.heap.size 1 (by simp; omega) hne5.out).2.trans (by go_simp)); have u3 : w6.frozen? ⟨w2.heap.size, 0, none⟩ = false := ((grown_cells g6 w2.heap.size 0 (by simp; omega) hne5.out).2.trans (by go_simp)); have u4 : w6.cell? ⟨g4, k, none⟩ = some (.int .i64 y) := ((grown_cells g6 g4 k (by simp; omega) hne6.out).1.trans (by go_simp)); obtain ⟨a6, c6, e6⟩ := owns_form o6; subst e6; have O6 := hid_in o6; have G6 := hid_in g6; clear o6 g6 n6 i0 i1 i2 i3))
          all_goals
            go_wp2_with fail
            refine ⟨⟨k + 1, by omega, by simp, ?_⟩, by simp [intOf]; omega⟩
            show SI _ _ _ _ _ _
            refine ⟨(HMv.out.grownB (by go_grown) G6.out (fun k hk => (owns_own IO.out k hk).1)).poke1 _, by go_simp, by go_simp, by go_simp, .slice a6 (m + 1) c6, m + 1, by go_simp, ?_⟩
            rw [take_filter_yes hlt' (by rw [HY.out]; exact hs'), HY.out]
            exact owns_set O6.out (by omega)
        · have hs' : decide (n - 16 < y) = false := by simp; omega
          go_wp2_with fail
          go_region
          go_wp2_with fail
          refine ⟨⟨k + 1, by omega, by simp, ?_⟩, by simp [intOf]; omega⟩
          show SI _ _ _ _ _ _
          refine ⟨HMv.out.drew1, i0, i2, i3, _, m, i1, ?_⟩
          rw [take_filter_no hlt' (by rw [HY.out]; exact hs')]
          exact owns_drew IO.out
      · have hd : decide ((k : Int) < (A.length : Int)) = false := by simp; omega
        have e : k = A.length := by omega
        have HE := hid_in e
        clear hM io e
        go_wp2_with fail
        exact bodyPost_ret (v := .tuple #[.agg #[.int .i64 n, .slice a5 m c5], .int .i64 0]) (by simp [results, Tryz.results122, go_sem, q0, q1]) rfl
          (SeeL.fine (M := n) HN.out ho HM.out (by first | (rw [if_pos htop]) | (rw [if_neg (by omega)])) (by rw [HA.out]; have h := IO.out; rw [HE.out, List.take_length] at h; exact ownsW_base (owns_set (owns_set h (by omega)) (by omega)) (by omega)) (((ZB.out.trans (HMv.out.below (by omega) (by omega))).setCell (by simp) _).setCell (by simp) _))
  · have htop' : decide (T < n) = false := by simp; omega
    go_wp2_with (at_builtin; refine wpI_append rfl (.tmp 38) (.tmp 40) rfl (w2.heap.size + 1) (.slice (some ⟨w2.heap.size + 1, 0, none⟩) 0 0) 0 [] rfl (by first | exact owns_nil_lit 3 (by simp) | (have h := owns_nil_lit (w := w2.alloc (Obj.cells #[.int .i64 T, .slice none 0 0] 43)) (base := w2.heap.size + 1) 3 (by simp); rw [heapSize1] at h; exact h)) _ L rfl (HL.out.later (by go_grown)) (by omega) (by simp; try omega) ?_; intro v3 w3 o3 g3 n3)
    simp only [List.nil_append, Nat.zero_add] at o3
    obtain ⟨g, cp, rfl, hg1, hg2, hg3, hg4, hg5⟩ := owns_some o3 (n3 (by simp))
    have b3 : Below (w2.heap.size + 1) (w2.alloc (Obj.cells #[.int .i64 T, .slice none 0 0] 43)) w3 := by
      have h1 : Below (w2.heap.size + 1) (w2.alloc (Obj.cells #[.int .i64 T, .slice none 0 0] 43)) ((w2.alloc (Obj.cells #[.int .i64 T, .slice none 0 0] 43)).alloc (Obj.cells #[] 3)) := by
        have := below_box (w2.alloc (Obj.cells #[.int .i64 T, .slice none 0 0] 43)) (Obj.cells #[] 3)
        rw [heapSize1] at this; exact this
      refine h1.trans (grown_below g3 (by simp) (fun k hk => ?_))
      have hk2 : some (w2.heap.size + 1) = some k := hk
      have := Option.some.inj hk2
      omega
    obtain ⟨x1, x2⟩ := bcellB b3
    have j0 : w3.cell? ⟨w2.heap.size, 0, none⟩ = some (.int .i64 T) := by rw [x1 _ _ (by omega)]; go_simp
    have j1 : w3.cell? ⟨w2.heap.size, 1, none⟩ = some (.slice none 0 0) := by rw [x1 _ _ (by omega)]; go_simp
    have j2 : w3.frozen? ⟨w2.heap.size, 0, none⟩ = false := by rw [x2 _ _ (by omega)]; go_simp
    have j3 : w3.frozen? ⟨w2.heap.size, 1, none⟩ = false := by rw [x2 _ _ (by omega)]; go_simp
    have zB : Below w.heap.size w w3 := zW.trans ((below_box w2 _).mono (by omega) |>.trans (b3.mono (by omega)))
    have zB2 : Below w2.heap.size w2 w3 := (below_box w2 _).trans (b3.mono (by omega))
    obtain ⟨y1, y2⟩ := bcell zB2
    replace k0 := (y1 _ _ m2).trans k0
    replace k1 := (y1 _ _ m2).trans k1
    replace k2 := (y2 _ _ m2).trans k2
    replace k3 := (y2 _ _ m2).trans k3
    have s3 : w2.heap.size + 1 ≤ w3.heap.size := by have := b3.size; simp at this; omega
    clear x1 x2 y1 y2 o3 g3 n3 k4 k5 b3 zB2 zW
    refine (l3Num_any n g 0 cp L w3 hg3 hg4 hg2 hg5 (by omega) HM.out).mono ?_
    rintro e w4 ⟨v4, rfl, o4, hb4⟩
    obtain ⟨x1, x2⟩ := bcell hb4
    replace k0 := (x1 _ _ (by omega)).trans k0
    replace k1 := (x1 _ _ (by omega)).trans k1
    replace k2 := (x2 _ _ (by omega)).trans k2
    replace k3 := (x2 _ _ (by omega)).trans k3
    replace j0 := (x1 _ _ (by omega)).trans j0
    replace j1 := (x1 _ _ (by omega)).trans j1
    replace j2 := (x2 _ _ (by omega)).trans j2
    replace j3 := (x2 _ _ (by omega)).trans j3
    replace zB := zB.trans (hb4.mono (show w.heap.size ≤ w3.heap.size by omega))
    have s4 : w2.heap.size + 1 ≤ w4.heap.size := by have := hb4.size; omega
    have hlin := owns_len o4
    obtain ⟨g4, c4, rfl, hq1, hq2, hq3, hq4, hq5⟩ := owns_some o4 (by rintro rfl; obtain ⟨_, h | ⟨_, _, _, h, _⟩⟩ := o4 <;> simp at h)
    have Q5 := hid_in hq5; have ZB := hid_in zB; have K0 := hid_in k0; have K1 := hid_in k1; have K2 := hid_in k2; have K3 := hid_in k3
    have I0 : Hid (SI w2.heap.size w4 T (ins n L) 0 w4) := by show SI _ _ _ _ _ _; exact ⟨Mv.refl _ _, j0, j2, j3, _, 0, j1, World.ownsRow_nil _ _ _ _⟩
    clear x1 x2 hb4 o4 hg1 hg2 hg3 hg4 hg5 k0 k1 k2 k3 j0 j1 j2 j3 hq5 zB
    generalize hA : ins n L = A at *
    have HA := hid_in hA
    clear hA
    go_wp2_with fail
    go_loopw [8] (fun u wr => ∃ k : Nat, k ≤ A.length ∧ u = .int .i64 (k : Int) ∧ Hid (SI w2.heap.size w4 T A k wr)) (fun u _ => A.length - (intOf u).toNat)
    case atStart => exact ⟨0, Nat.zero_le _, rfl, I0⟩
    case round =>
      obtain ⟨k, hk, rfl, HW⟩ := hrel
      obtain ⟨hM, i0, i2, i3, vs, m, i1, io⟩ := HW.out
      have hge : ¬ g4 = w2.heap.size := by omega
      have q0 := (hM.cell (w.heap.size + 1) 0 (by omega) (by omega)).trans K0.out
      have q1 := (hM.cell (w.heap.size + 1) 1 (by omega) (by omega)).trans K1.out
      have q2 := (hM.frozen (w.heap.size + 1) 0 (by omega) (by omega)).trans K2.out
      have q3 := (hM.frozen (w.heap.size + 1) 1 (by omega) (by omega)).trans K3.out
      have hsz := hM.size
      obtain ⟨a5, c5, rfl⟩ := owns_form io
      have hmk : m ≤ k := by rw [owns_len io]; exact Nat.le_trans (List.length_filter_le _ _) (by rw [List.length_take]; omega)
      have l1 : w2.heap.size < wr.heap.size := by omega
      have l2 : w.heap.size + 1 < wr.heap.size := by omega
      have l3 : g4 < wr.heap.size := by omega
      have IO := hid_in io; have HMv := hid_in hM
      by_cases hlt' : k < A.length
      · have hd : (k : Int) < (A.length : Int) := by omega
        have g0 := (hM.cell g4 (0 + k) hq2 hge).trans (Q5.out k hlt')
        rw [Nat.zero_add] at g0
        generalize hy : A.getD k 0 = y at g0
        have HY := hid_in hy
        clear hy hM io
        by_cases hs : T - 16 < y
        · have hs' : decide (T - 16 < y) = true := by simp; omega
          have hne5 : Hid ((Value.slice a5 m c5).ownBlock ≠ some w2.heap.size) := by
            show _ ≠ _
            intro h; have := (owns_own IO.out _ h).1; omega
          have hne6 : Hid ((Value.slice a5 m c5).ownBlock ≠ some g4) := by
            show _ ≠ _
            intro h; have := (owns_own IO.out _ h).1; omega
          go_wp2_with fail
          go_region
          go_wp2_with fail
          go_region_law (first | (refine stepI_append rfl (.tmp 59) (.tmp 64) rfl w4.heap.size (.slice a5 m c5) m _ rfl (by first | exact IO.out.alloc _ | exact (owns_drew IO.out).alloc _) _ [y] rfl (by first | exact IL.one _ _ _) (by simp; omega) (by simp; omega) ?_; intro v6 w6 o6 g6 n6; have u1 : w6.cell? ⟨w2.heap.size, 1, none⟩ = some (.slice a5 m c5) := ((grown_cells g6 w2.heap.size 1 (by simp; omega) hne5.out).1.trans (by go_simp)); have u0 : w6.cell? ⟨w2.heap.size, 0, none⟩ = some (.int .i64 T) := ((grown_cells g6 w2.heap.size 0 (by simp; omega) hne5.out).1.trans (by go_simp)); have u2 : w6.frozen? ⟨w2.heap.size, 1, none⟩ = false := ((grown_cells g6 w2.heap.size 1 (by simp; omega) hne5.out).2.trans (by go_simp)); have u3 : w6.frozen? ⟨w2.heap.size, 0, none⟩ = false := ((grown_cells g6 w2.heap.size 0 (by simp; omega) hne5.out).2.trans (by go_simp)); have u4 : w6.cell? ⟨g4, k, none⟩ = some (.int .i64 y) := ((grown_cells g6 g4 k (by simp; omega) hne6.out).1.trans (by go_simp)); obtain ⟨a6, c6, e6⟩ := owns_form o6; subst e6; have O6 := hid_in o6; have G6 := hid_in g6; clear o6 g6 n6 i0 i1 i2 i3))
          all_goals
            go_wp2_with fail
            refine ⟨⟨k + 1, by omega, by simp, ?_⟩, by simp [intOf]; omega⟩
            show SI _ _ _ _ _ _
            refine ⟨(HMv.out.grownB (by go_grown) G6.out (fun k hk => (owns_own IO.out k hk).1)).poke1 _, by go_simp, by go_simp, by go_simp, .slice a6 (m + 1) c6, m + 1, by go_simp, ?_⟩
            rw [take_filter_yes hlt' (by rw [HY.out]; exact hs'), HY.out]
            exact owns_set O6.out (by omega)
        · have hs' : decide (T - 16 < y) = false := by simp; omega
          go_wp2_with fail
          go_region
          go_wp2_with fail
          refine ⟨⟨k + 1, by omega, by simp, ?_⟩, by simp [intOf]; omega⟩
          show SI _ _ _ _ _ _
          refine ⟨HMv.out.drew1, i0, i2, i3, _, m, i1, ?_⟩
          rw [take_filter_no hlt' (by rw [HY.out]; exact hs')]
          exact owns_drew IO.out
      · have hd : decide ((k : Int) < (A.length : Int)) = false := by simp; omega
        have e : k = A.length := by omega
        have HE := hid_in e
        clear hM io e
        go_wp2_with fail
        exact bodyPost_ret (v := .tuple #[.agg #[.int .i64 T, .slice a5 m c5], .int .i64 0]) (by simp [results, Tryz.results122, go_sem, q0, q1]) rfl
          (SeeL.fine (M := T) HN.out ho HM.out (by first | (rw [if_pos htop]) | (rw [if_neg (by omega)])) (by rw [HA.out]; have h := IO.out; rw [HE.out, List.take_length] at h; exact ownsW_base (owns_set (owns_set h (by omega)) (by omega)) (by omega)) (((ZB.out.trans (HMv.out.below (by omega) (by omega))).setCell (by simp) _).setCell (by simp) _))
theorem l7See_any (T n : Int) (c : Nat) (L : List Int) (v : Value) (w : World) (hL : IL w v L) (hr : Rep T c L) :
    Calls Tryz.prog 122 #[.agg #[.int .i64 T, v], .int .i64 n] w (SeeL T n L w) := by
  by_cases h1 : inB n 1 1000000 = true
  · by_cases h2 : n ≤ T - 16
    · exact l7See_old T n c L v w hL hr h1 h2
    · by_cases h3 : n ∈ L
      · exact l7See_again T n c L v w hL hr h1 h2 h3
      · exact l7See_fine T n c L v w hL hr h1 h2 h3
  · exact l7See_bad T n c L v w hL hr (by simpa using h1)
end Go.Proofs.YtefmmopkikpnhaaGreatDoor

namespace Go.Proofs.YtefmmopkikpnhaaGreatDoor
open Go.RowKit Go.LatT Go.BlockM Go.OpnT Go.WinMath
set_option linter.unusedVariables false
set_option linter.unusedSimpArgs false
end Go.Proofs.YtefmmopkikpnhaaGreatDoor

namespace Go.Proofs.YtefmmopkikpnhaaGreatDoor
open Go.RowKit Go.LatT Go.BlockM Go.OpnT Go.WinMath
set_option linter.unusedVariables false
set_option linter.unusedSimpArgs false
theorem wok_rep {t : Int} {len : Nat} {E : Nat → Int} (h : WOk t len E) : ∃ c, Rep t c (LE E len) := by
  obtain ⟨h1, h2⟩ := wok_good h
  have key : ∀ k, k ≤ len → ∃ c, Rep (topK E k) c (seenK E k) := by
    intro k
    induction k with
    | zero => exact fun _ => ⟨0, rep_nil⟩
    | succ k ih =>
      intro hk
      obtain ⟨c, hc⟩ := ih (by omega)
      have hg := fun i (hi : i < k) => h1 i (by omega)
      have h0 := topK_nonneg hg
      have hr := hc
      obtain ⟨g1, g2, g3⟩ := h1 k (by omega)
      obtain ⟨x1, x2⟩ := code_good hg hc (h1 k (by omega))
      obtain ⟨y1, _, _⟩ := rep_see (n := E k) hc (by omega) g3 (by omega) (fun hm => by have := hr.mem _ hm; omega)
      rw [x2] at y1
      exact ⟨_, y1⟩
  obtain ⟨c, hc⟩ := key len (Nat.le_refl _)
  rw [h2, wok_seen h] at hc
  exact ⟨c, hc⟩
/-- The numbers of a list, by their places. -/
def gE (L : List Int) : Nat → Int := fun i => L.getD i 0
theorem LE_gE (L : List Int) : LE (gE L) L.length = L := by
  apply List.ext_getElem
  · simp [LE]
  · intro i h1 h2
    simp [LE, gE, h2]
theorem IL.ints {w : World} {v : Value} {L : List Int} (h : IL w v L) : ∃ a cap, v = .slice a L.length cap ∧ Ints w a L.length (gE L) := by
  obtain ⟨a, cap, e, hc, h⟩ := h
  refine ⟨a, cap, e, ?_⟩
  rcases h with ⟨rfl, rfl⟩ | ⟨bb, off, e, hlt, hc⟩
  · exact .inl (by omega)
  · exact .inr ⟨bb, off, e, hlt, hc⟩
/-- The answer to a window and a number. -/
def Res (t n : Int) (L : List Int) (T' : Int) (L' : List Int) (k' : Int) : Prop :=
  (¬ WOk t L.length (gE L) ∧ T' = 0 ∧ L' = [] ∧ k' = 1) ∨ (WOk t L.length (gE L) ∧ T' = topL t L n ∧ L' = listL t L n ∧ k' = codeL t L n)
theorem Res.same {t n T1 k1 T2 k2 : Int} {L L1 L2 : List Int} (h1 : Res t n L T1 L1 k1) (h2 : Res t n L T2 L2 k2) : T1 = T2 ∧ L1 = L2 ∧ k1 = k2 := by
  rcases h1 with ⟨a, rfl, rfl, rfl⟩ | ⟨a, rfl, rfl, rfl⟩ <;> rcases h2 with ⟨b, rfl, rfl, rfl⟩ | ⟨b, rfl, rfl, rfl⟩
  · exact ⟨rfl, rfl, rfl⟩
  · exact absurd b a
  · exact absurd a b
  · exact ⟨rfl, rfl, rfl⟩
theorem listL_len {T n : Int} {c : Nat} {L : List Int} (h : Rep T c L) : (listL T L n).length ≤ 16 ∧ ∃ c', Rep (topL T L n) c' (listL T L n) := by
  have key : ∃ c', Rep (topL T L n) c' (listL T L n) := by
    by_cases hc : codeL T L n = 0
    · have hc2 := hc
      unfold codeL at hc2
      split at hc2
      · simp at hc2
      · split at hc2
        · simp at hc2
        · split at hc2
          · simp at hc2
          · rename_i a b d
            obtain ⟨y, _, _⟩ := rep_see h (by omega) (by omega) (by omega) d
            exact ⟨_, y⟩
    · refine ⟨c, ?_⟩
      unfold topL listL
      rw [if_neg (fun h => hc h.1), if_neg hc]
      exact h
  obtain ⟨c', h'⟩ := key
  exact ⟨repW_len h', c', h'⟩
end Go.Proofs.YtefmmopkikpnhaaGreatDoor

namespace Go.Proofs.YtefmmopkikpnhaaGreatDoor
open Go.RowKit Go.LatT Go.BlockM Go.OpnT Go.WinMath
set_option linter.unusedVariables false
set_option linter.unusedSimpArgs false
theorem IRow.owns {w : World} {b n base : Nat} {E : Nat → Int} (h : IRow w b n E) (hb : base ≤ b) (hn : n ≤ maxLen) : w.ownsRow base 3 1 (.slice (some ⟨b, 0, none⟩) n n) n (i64s (LE E n)) := by
  obtain ⟨c, h1, h2, h3⟩ := h
  refine ⟨by simp [i64s, LE], .inr ⟨b, n, c, rfl, hb, h1, Nat.le_refl _, hn, by omega, ?_⟩⟩
  have hl : c.toList.length = n := by simpa using h2
  rw [Nat.mul_one, List.take_of_length_le (by omega)]
  apply List.ext_getElem?
  intro i
  by_cases hi : i < n
  · rw [show c.toList[i]? = c[i]? by simp, h3 i hi]
    simp [i64s, LE, hi]
  · rw [List.getElem?_eq_none (by omega), List.getElem?_eq_none (by simp [i64s, LE]; omega)]
end Go.Proofs.YtefmmopkikpnhaaGreatDoor

namespace Go.Proofs.YtefmmopkikpnhaaGreatDoor
open Go.RowKit Go.LatT Go.BlockM Go.OpnT Go.WinMath
set_option linter.unusedVariables false
set_option linter.unusedSimpArgs false
theorem Res.len {t n T' k' : Int} {L L' : List Int} (h : Res t n L T' L' k') : L'.length ≤ 16 := by
  rcases h with ⟨_, _, rfl, _⟩ | ⟨hw, _, rfl, _⟩
  · simp
  · obtain ⟨c, hc⟩ := wok_rep hw
    rw [LE_gE] at hc
    exact (listL_len hc).1
theorem WBox.grown {w w' : World} {g : Nat} {t : Int} {v : Value} {row : Option Nat} (h : WBox w g t v) (hg : w.grownBy w' row) (hr : row ≠ some g) : WBox w' g t v :=
  ⟨Nat.lt_of_lt_of_le h.lt hg.size, by rw [(grown_cells hg g 0 h.lt hr).1]; exact h.c0, by rw [(grown_cells hg g 1 h.lt hr).1]; exact h.c1⟩
/-- What lies where, while the answers are held against each other. -/
structure WSt (w : World) (t T' : Int) (aV sv gv xv : Value) (L' GL XL : List Int) (B D X G b0 b1 b2 : Nat) (x : World) : Prop where
  z : Below w.heap.size w x
  a : WBox x B t aV
  d : WBox x D T' sv
  bx : WBox x X t xv
  g : WBox x G T' gv
  os : x.ownsRow b0 3 1 sv L'.length (i64s L')
  og : x.ownsRow b1 3 1 gv GL.length (i64s GL)
  ox : x.ownsRow b2 3 1 xv XL.length (i64s XL)
theorem WSt.later {w x y : World} {t T' : Int} {aV sv gv xv : Value} {L' GL XL : List Int} {B D X G b0 b1 b2 : Nat} (h : WSt w t T' aV sv gv xv L' GL XL B D X G b0 b1 b2 x) (hb : Below x.heap.size x y) : WSt w t T' aV sv gv xv L' GL XL B D X G b0 b1 b2 y :=
  ⟨below_later h.z hb, h.a.later hb, h.d.later hb, h.bx.later hb, h.g.later hb, owns_below h.os hb, owns_below h.og hb, owns_below h.ox hb⟩
theorem WSt.drew {w x : World} {t T' : Int} {aV sv gv xv : Value} {L' GL XL : List Int} {B D X G b0 b1 b2 : Nat} (h : WSt w t T' aV sv gv xv L' GL XL B D X G b0 b1 b2 x) : WSt w t T' aV sv gv xv L' GL XL B D X G b0 b1 b2 x.drew :=
  ⟨h.z.drew, ⟨h.a.lt, h.a.c0, h.a.c1⟩, ⟨h.d.lt, h.d.c0, h.d.c1⟩, ⟨h.bx.lt, h.bx.c0, h.bx.c1⟩, ⟨h.g.lt, h.g.c0, h.g.c1⟩, h.os, h.og, h.ox⟩
theorem owns_il {w : World} {base : Nat} {v : Value} {L : List Int} (h : w.ownsRow base 3 1 v L.length (i64s L)) : IL w v L := IL.of_owns h rfl
end Go.Proofs.YtefmmopkikpnhaaGreatDoor

