/- Seeing a number by a list, in the specification, as a contract: where nothing is taken. The conditions stand at each theorem. -/
import Derived.Test.YtmkmbbbmelejoaaWinG
namespace Go.Proofs.Ytmkmbbbmelejoaa
open Go.RowKit Go.LatT Go.BlockM Go.OpnT Go.WinMath
set_option linter.unusedVariables false
set_option linter.unusedSimpArgs false
set_option maxHeartbeats 400000 in
set_option maxRecDepth 100000 in
theorem l1InW (n : Int) (w : World) (v : Bool) (hv : inB n 1 1000000 = v) :
    Calls Try.prog 24 #[.int .i64 n, .int .i64 1, .int .i64 1000000] w fun e w' => e = .returned (.bool v) ∧ w' = w := by
  have hv1 := hid_in hv
  clear hv
  go_enter Try.func24, Try.ntmps24
  go_wp2
  all_goals
    go_ret
    exact ⟨ret_bool (by rw [← hv1.out]; simp only [inB]; rw [Bool.eq_iff_iff]; simp; try omega), rfl⟩
/-- What seeing leaves, by lists. -/
def SeeL (T n : Int) (L : List Int) (w : World) (e : Ending) (w' : World) : Prop :=
  ∃ v' m, e = .returned (.tuple #[.agg #[.int .i64 (topL T L n), v'], .int .i64 (codeL T L n)]) ∧ w'.ownsRow w.heap.size 3 1 v' m (i64s (listL T L n)) ∧ Below w.heap.size w w'
theorem SeeL.none {T n k : Int} {L : List Int} {w w' : World} {v' : Value} {m : Nat} (hk : codeL T L n = k) (h0 : k ≠ 0) (ho : w'.ownsRow w.heap.size 3 1 v' m (i64s L)) (hb : Below w.heap.size w w') : SeeL T n L w (.returned (.tuple #[.agg #[.int .i64 T, v'], .int .i64 k])) w' := by
  have e1 : topL T L n = T := by unfold topL; rw [if_neg (by rw [hk]; exact fun h => h0 h.1)]
  have e2 : listL T L n = L := by unfold listL; rw [if_neg (by rw [hk]; exact h0)]
  exact ⟨v', m, by rw [hk, e1], by rw [e2]; exact ho, hb⟩
theorem IL.form {w : World} {v : Value} {L : List Int} (h : IL w v L) : ∃ a cap, v = .slice a L.length cap := by
  obtain ⟨a, cap, e, _⟩ := h
  exact ⟨a, cap, e⟩
set_option maxHeartbeats 2000000 in
set_option maxRecDepth 100000 in
theorem l7See_bad (T n : Int) (c : Nat) (L : List Int) (v : Value) (w : World) (hL : IL w v L) (hr : Rep T c L) (hn : inB n 1 1000000 = false) :
    Calls Try.prog 22 #[.agg #[.int .i64 T, v], .int .i64 n] w (SeeL T n L w) := by
  have HL := hid_in hL; have HR := hid_in hr
  have t0 := hr.t0; have t1 := hr.t1
  obtain ⟨a, cap, rfl⟩ := hL.form
  have HN := hid_in hn
  clear hL hn hr
  go_enter Try.func22, Try.ntmps22
  go_wp2_with fail
  refine (l1InW n _ false HN.out).mono ?_
  rintro e w' ⟨rfl, rfl⟩
  go_wp2_with fail
  have zW : Below w.heap.size w ((w.alloc (Obj.cells #[.int .i64 T, .slice a L.length cap] 25)).alloc (Obj.cells #[.int .i64 0, .slice none 0 0] 25)) := by go_grown
  have sW : ((w.alloc (Obj.cells #[.int .i64 T, .slice a L.length cap] 25)).alloc (Obj.cells #[.int .i64 0, .slice none 0 0] 25)).heap.size = w.heap.size + 1 + 1 := heapSize2 _ _ _
  have k0 : ((w.alloc (Obj.cells #[.int .i64 T, .slice a L.length cap] 25)).alloc (Obj.cells #[.int .i64 0, .slice none 0 0] 25)).cell? ⟨w.heap.size + 1, 0, none⟩ = some (.int .i64 0) := by go_simp
  have k1 : ((w.alloc (Obj.cells #[.int .i64 T, .slice a L.length cap] 25)).alloc (Obj.cells #[.int .i64 0, .slice none 0 0] 25)).cell? ⟨w.heap.size + 1, 1, none⟩ = some (.slice none 0 0) := by go_simp
  have k2 : ((w.alloc (Obj.cells #[.int .i64 T, .slice a L.length cap] 25)).alloc (Obj.cells #[.int .i64 0, .slice none 0 0] 25)).frozen? ⟨w.heap.size + 1, 0, none⟩ = false := by go_simp
  have k3 : ((w.alloc (Obj.cells #[.int .i64 T, .slice a L.length cap] 25)).alloc (Obj.cells #[.int .i64 0, .slice none 0 0] 25)).frozen? ⟨w.heap.size + 1, 1, none⟩ = false := by go_simp
  generalize ((w.alloc (Obj.cells #[.int .i64 T, .slice a L.length cap] 25)).alloc (Obj.cells #[.int .i64 0, .slice none 0 0] 25)) = W at *
  refine (l7Copy_any T _ L _ (HL.out.later zW) (by have := rep_len HR.out; omega)).mono ?_
  rintro e w3 ⟨v', rfl, ho, hb3⟩
  obtain ⟨a', c', rfl⟩ := owns_form ho
  have p0 : w3.cell? ⟨w.heap.size + 1, 0, none⟩ = some (.int .i64 0) := ((bcell hb3).1 _ _ (by omega)).trans k0
  have p1 : w3.cell? ⟨w.heap.size + 1, 1, none⟩ = some (.slice none 0 0) := ((bcell hb3).1 _ _ (by omega)).trans k1
  have p2 : w3.frozen? ⟨w.heap.size + 1, 0, none⟩ = false := ((bcell hb3).2 _ _ (by omega)).trans k2
  have p3 : w3.frozen? ⟨w.heap.size + 1, 1, none⟩ = false := ((bcell hb3).2 _ _ (by omega)).trans k3
  have O := hid_in (owns_base ho (show w.heap.size + 1 + 1 ≤ W.heap.size by omega)); have B := hid_in (zW.trans (hb3.mono (show w.heap.size ≤ W.heap.size by omega)))
  clear ho hb3 zW k0 k1 k2 k3
  go_wp2_with fail
  exact bodyPost_ret (v := .tuple #[.agg #[.int .i64 T, .slice a' L.length c'], .int .i64 1]) (by simp [results, Try.results22, go_sem, p0, p1]) rfl
    (SeeL.none (by have h := HN.out; unfold codeL; rw [if_pos (by simp [inB] at h; omega)]) (by decide) (owns_base (owns_set (owns_set O.out (by omega)) (by omega)) (by omega)) ((B.out.setCell (by simp) _).setCell (by simp) _))
set_option maxHeartbeats 2000000 in
set_option maxRecDepth 100000 in
theorem l7See_old (T n : Int) (c : Nat) (L : List Int) (v : Value) (w : World) (hL : IL w v L) (hr : Rep T c L) (hn : inB n 1 1000000 = true) (ho : n ≤ T - 16) :
    Calls Try.prog 22 #[.agg #[.int .i64 T, v], .int .i64 n] w (SeeL T n L w) := by
  have HL := hid_in hL; have HR := hid_in hr
  have t0 := hr.t0; have t1 := hr.t1
  obtain ⟨a, cap, rfl⟩ := hL.form
  have HN := hid_in hn
  clear hL hn hr
  go_enter Try.func22, Try.ntmps22
  go_wp2_with fail
  refine (l1InW n _ true HN.out).mono ?_
  rintro e w' ⟨rfl, rfl⟩
  go_wp2_with fail
  have zW : Below w.heap.size w ((w.alloc (Obj.cells #[.int .i64 T, .slice a L.length cap] 25)).alloc (Obj.cells #[.int .i64 0, .slice none 0 0] 25)) := by go_grown
  have sW : ((w.alloc (Obj.cells #[.int .i64 T, .slice a L.length cap] 25)).alloc (Obj.cells #[.int .i64 0, .slice none 0 0] 25)).heap.size = w.heap.size + 1 + 1 := heapSize2 _ _ _
  have k0 : ((w.alloc (Obj.cells #[.int .i64 T, .slice a L.length cap] 25)).alloc (Obj.cells #[.int .i64 0, .slice none 0 0] 25)).cell? ⟨w.heap.size + 1, 0, none⟩ = some (.int .i64 0) := by go_simp
  have k1 : ((w.alloc (Obj.cells #[.int .i64 T, .slice a L.length cap] 25)).alloc (Obj.cells #[.int .i64 0, .slice none 0 0] 25)).cell? ⟨w.heap.size + 1, 1, none⟩ = some (.slice none 0 0) := by go_simp
  have k2 : ((w.alloc (Obj.cells #[.int .i64 T, .slice a L.length cap] 25)).alloc (Obj.cells #[.int .i64 0, .slice none 0 0] 25)).frozen? ⟨w.heap.size + 1, 0, none⟩ = false := by go_simp
  have k3 : ((w.alloc (Obj.cells #[.int .i64 T, .slice a L.length cap] 25)).alloc (Obj.cells #[.int .i64 0, .slice none 0 0] 25)).frozen? ⟨w.heap.size + 1, 1, none⟩ = false := by go_simp
  generalize ((w.alloc (Obj.cells #[.int .i64 T, .slice a L.length cap] 25)).alloc (Obj.cells #[.int .i64 0, .slice none 0 0] 25)) = W at *
  refine (l7Copy_any T _ L _ (HL.out.later zW) (by have := rep_len HR.out; omega)).mono ?_
  rintro e w3 ⟨v', rfl, ho, hb3⟩
  obtain ⟨a', c', rfl⟩ := owns_form ho
  have p0 : w3.cell? ⟨w.heap.size + 1, 0, none⟩ = some (.int .i64 0) := ((bcell hb3).1 _ _ (by omega)).trans k0
  have p1 : w3.cell? ⟨w.heap.size + 1, 1, none⟩ = some (.slice none 0 0) := ((bcell hb3).1 _ _ (by omega)).trans k1
  have p2 : w3.frozen? ⟨w.heap.size + 1, 0, none⟩ = false := ((bcell hb3).2 _ _ (by omega)).trans k2
  have p3 : w3.frozen? ⟨w.heap.size + 1, 1, none⟩ = false := ((bcell hb3).2 _ _ (by omega)).trans k3
  have O := hid_in (owns_base ho (show w.heap.size + 1 + 1 ≤ W.heap.size by omega)); have B := hid_in (zW.trans (hb3.mono (show w.heap.size ≤ W.heap.size by omega)))
  clear ho hb3 zW k0 k1 k2 k3
  go_wp2_with fail
  exact bodyPost_ret (v := .tuple #[.agg #[.int .i64 T, .slice a' L.length c'], .int .i64 2]) (by simp [results, Try.results22, go_sem, p0, p1]) rfl
    (SeeL.none (by have h := HN.out; unfold codeL; rw [if_neg (by simp [inB] at h; omega), if_pos ho]) (by decide) (owns_base (owns_set (owns_set O.out (by omega)) (by omega)) (by omega)) ((B.out.setCell (by simp) _).setCell (by simp) _))
set_option maxHeartbeats 2000000 in
set_option maxRecDepth 100000 in
theorem l7See_again (T n : Int) (c : Nat) (L : List Int) (v : Value) (w : World) (hL : IL w v L) (hr : Rep T c L) (hn : inB n 1 1000000 = true) (ho : ¬ n ≤ T - 16) (hm : n ∈ L) :
    Calls Try.prog 22 #[.agg #[.int .i64 T, v], .int .i64 n] w (SeeL T n L w) := by
  have HL := hid_in hL; have HR := hid_in hr
  have t0 := hr.t0; have t1 := hr.t1
  obtain ⟨a, cap, rfl⟩ := hL.form
  have HN := hid_in hn; have HM := hid_in hm
  clear hL hn hr hm
  go_enter Try.func22, Try.ntmps22
  go_wp2_with fail
  refine (l1InW n _ true HN.out).mono ?_
  rintro e w' ⟨rfl, rfl⟩
  go_wp2_with fail
  have zW : Below w.heap.size w ((w.alloc (Obj.cells #[.int .i64 T, .slice a L.length cap] 25)).alloc (Obj.cells #[.int .i64 0, .slice none 0 0] 25)) := by go_grown
  have sW : ((w.alloc (Obj.cells #[.int .i64 T, .slice a L.length cap] 25)).alloc (Obj.cells #[.int .i64 0, .slice none 0 0] 25)).heap.size = w.heap.size + 1 + 1 := heapSize2 _ _ _
  have k0 : ((w.alloc (Obj.cells #[.int .i64 T, .slice a L.length cap] 25)).alloc (Obj.cells #[.int .i64 0, .slice none 0 0] 25)).cell? ⟨w.heap.size + 1, 0, none⟩ = some (.int .i64 0) := by go_simp
  have k1 : ((w.alloc (Obj.cells #[.int .i64 T, .slice a L.length cap] 25)).alloc (Obj.cells #[.int .i64 0, .slice none 0 0] 25)).cell? ⟨w.heap.size + 1, 1, none⟩ = some (.slice none 0 0) := by go_simp
  have k2 : ((w.alloc (Obj.cells #[.int .i64 T, .slice a L.length cap] 25)).alloc (Obj.cells #[.int .i64 0, .slice none 0 0] 25)).frozen? ⟨w.heap.size + 1, 0, none⟩ = false := by go_simp
  have k3 : ((w.alloc (Obj.cells #[.int .i64 T, .slice a L.length cap] 25)).alloc (Obj.cells #[.int .i64 0, .slice none 0 0] 25)).frozen? ⟨w.heap.size + 1, 1, none⟩ = false := by go_simp
  have k4 : ((w.alloc (Obj.cells #[.int .i64 T, .slice a L.length cap] 25)).alloc (Obj.cells #[.int .i64 0, .slice none 0 0] 25)).cell? ⟨w.heap.size, 0, none⟩ = some (.int .i64 T) := by go_simp
  have k5 : ((w.alloc (Obj.cells #[.int .i64 T, .slice a L.length cap] 25)).alloc (Obj.cells #[.int .i64 0, .slice none 0 0] 25)).cell? ⟨w.heap.size, 1, none⟩ = some (.slice a L.length cap) := by go_simp
  generalize ((w.alloc (Obj.cells #[.int .i64 T, .slice a L.length cap] 25)).alloc (Obj.cells #[.int .i64 0, .slice none 0 0] 25)) = W at *
  refine (l7Had_any T n _ L _ (HL.out.later zW) (by have := rep_len HR.out; omega) true (decide_eq_true HM.out)).mono ?_
  rintro e w2 ⟨rfl, hb2⟩
  obtain ⟨x1, x2⟩ := bcell hb2
  replace k0 := (x1 _ _ (by omega)).trans k0
  replace k1 := (x1 _ _ (by omega)).trans k1
  replace k2 := (x2 _ _ (by omega)).trans k2
  replace k3 := (x2 _ _ (by omega)).trans k3
  replace k4 := (x1 _ _ (by omega)).trans k4
  replace k5 := (x1 _ _ (by omega)).trans k5
  replace zW := zW.trans (hb2.mono (show w.heap.size ≤ W.heap.size by omega))
  have s2 : w.heap.size + 1 + 1 ≤ w2.heap.size := by have := hb2.size; omega
  clear x1 x2 hb2 sW
  go_wp2_with fail
  refine (l7Copy_any T _ L _ (HL.out.later zW) (by have := rep_len HR.out; omega)).mono ?_
  rintro e w3 ⟨v', rfl, ho, hb3⟩
  obtain ⟨a', c', rfl⟩ := owns_form ho
  have p0 : w3.cell? ⟨w.heap.size + 1, 0, none⟩ = some (.int .i64 0) := ((bcell hb3).1 _ _ (by omega)).trans k0
  have p1 : w3.cell? ⟨w.heap.size + 1, 1, none⟩ = some (.slice none 0 0) := ((bcell hb3).1 _ _ (by omega)).trans k1
  have p2 : w3.frozen? ⟨w.heap.size + 1, 0, none⟩ = false := ((bcell hb3).2 _ _ (by omega)).trans k2
  have p3 : w3.frozen? ⟨w.heap.size + 1, 1, none⟩ = false := ((bcell hb3).2 _ _ (by omega)).trans k3
  have O := hid_in (owns_base ho (show w.heap.size + 1 + 1 ≤ w2.heap.size by omega)); have B := hid_in (zW.trans (hb3.mono (show w.heap.size ≤ w2.heap.size by omega)))
  clear ho hb3 zW k0 k1 k2 k3
  go_wp2_with fail
  exact bodyPost_ret (v := .tuple #[.agg #[.int .i64 T, .slice a' L.length c'], .int .i64 3]) (by simp [results, Try.results22, go_sem, p0, p1]) rfl
    (SeeL.none (by have h := HN.out; unfold codeL; rw [if_neg (by simp [inB] at h; omega), if_neg (by omega), if_pos HM.out]) (by decide) (owns_base (owns_set (owns_set O.out (by omega)) (by omega)) (by omega)) ((B.out.setCell (by simp) _).setCell (by simp) _))
end Go.Proofs.Ytmkmbbbmelejoaa
