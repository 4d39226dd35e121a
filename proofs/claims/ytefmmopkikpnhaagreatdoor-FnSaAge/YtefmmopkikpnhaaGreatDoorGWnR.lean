/- What is proved: the contracts of WinN, WinP, WinR, one behind the other. The conditions stand at each theorem. -/
import Derived.Test.YtefmmopkikpnhaaGreatDoorGWnC
import Derived.Test.YtefmmopkikpnhaaGreatDoorGSnA
import Derived.Test.YtefmmopkikpnhaaGreatDoorGDrw
namespace Go.Proofs.YtefmmopkikpnhaaGreatDoor
open Go.RowKit Go.LatT Go.BlockM Go.OpnT Go.WinMath Go.RegE
set_option linter.unusedVariables false
set_option linter.unusedSimpArgs false
theorem IL.set {w : World} {v u : Value} {L : List Int} {b o : Nat} (h : IL w v L) (hb : v.ownBlock ≠ some b) : IL (w.setCell ⟨b, o, none⟩ u) v L := by
  obtain ⟨a, cap, e, hc, h⟩ := h
  refine ⟨a, cap, e, hc, ?_⟩
  rcases h with h | ⟨bb, off, e2, hlt, hcc⟩
  · exact .inl h
  · refine .inr ⟨bb, off, e2, by simpa using hlt, fun i hi => ?_⟩
    have hne : bb ≠ b := by rintro rfl; exact hb (by rw [e, e2]; rfl)
    rw [← hcc i hi]
    unfold World.cell?
    rw [Below.heap_setCell _ _ _ _ hne]
theorem IL.grown {w w' : World} {v : Value} {L : List Int} {row : Option Nat} (h : IL w v L) (hg : w.grownBy w' row) (hr : v.ownBlock = none ∨ v.ownBlock ≠ row) : IL w' v L := by
  obtain ⟨a, cap, e, hc, h⟩ := h
  refine ⟨a, cap, e, hc, ?_⟩
  rcases h with h | ⟨bb, off, e2, hlt, hcc⟩
  · exact .inl h
  · have hne : row ≠ some bb := by
      rcases hr with hr | hr
      · rw [e, e2] at hr; simp [Value.ownBlock] at hr
      · intro h2; exact hr (by rw [e, e2, h2]; rfl)
    exact .inr ⟨bb, off, e2, Nat.lt_of_lt_of_le hlt hg.size, fun i hi => by rw [(grown_cells hg bb _ hlt hne).1]; exact hcc i hi⟩
theorem wput_get {w : World} {g : Nat} {ob : Obj} (h : g < w.heap.size) : (wput w g ob).heap[g]? = some ob := by
  unfold wput
  simp [h]
theorem IL.one2 {w : World} {x : Int} {t : TypeId} {b : Nat} (hb : b = w.heap.size) : IL (w.alloc (.cells #[.int .i64 x] t)) (.slice (some ⟨b, 0, none⟩) 1 1) [x] := by rw [hb]; exact IL.one w x t
theorem owns_mvW {w w' : World} {R base size n : Nat} {e : TypeId} {v : Value} {xs : List Value} (h : w.ownsRow base e size v n xs) (hm : Mv R w w') (hr : ∀ k, v.ownBlock = some k → k ≠ R) : w'.ownsRow base e size v n xs := by
  have hlt := fun k hk => (owns_own h k hk).2
  obtain ⟨h1, h2⟩ := h
  refine ⟨h1, ?_⟩
  rcases h2 with h2 | ⟨g, cap, cur, e1, e2, e3, e4⟩
  · exact .inl h2
  · exact .inr ⟨g, cap, cur, e1, e2, by rw [hm.block g (hlt g (by rw [e1]; rfl)) (hr g (by rw [e1]; rfl))]; exact e3, e4⟩
end Go.Proofs.YtefmmopkikpnhaaGreatDoor

namespace Go.Proofs.YtefmmopkikpnhaaGreatDoor
open Go.RowKit Go.LatT Go.BlockM Go.OpnT Go.WinMath Go.RegE
set_option linter.unusedVariables false
set_option linter.unusedSimpArgs false
end Go.Proofs.YtefmmopkikpnhaaGreatDoor

namespace Go.Proofs.YtefmmopkikpnhaaGreatDoor
open Go.RowKit Go.LatT Go.BlockM Go.OpnT Go.WinMath Go.RegE
set_option linter.unusedVariables false
set_option linter.unusedSimpArgs false
/-- What a drawn window is. -/
def DW (R : Nat) (sl : Value) (p : Int) (w : World) (e : Ending) (w' : World) : Prop :=
  ∃ T L v q c, e = .returned (.agg #[.int .i64 T, v]) ∧ Rep T c L ∧ w'.ownsRow w.heap.size 3 1 v L.length (i64s L) ∧ 0 ≤ q ∧ q ≤ p + 100 ∧ Rdr w' R sl q ∧ Mv R w w'
theorem Rdr.drewW {w : World} {R : Nat} {sl : Value} {p : Int} (h : Rdr w R sl p) : Rdr w.drew R sl p := h.later (Below.refl _ _).drew
theorem Mv.of_drew (R : Nat) (w : World) : Mv R w w.drew := Mv.of_below (Below.refl _ _).drew
theorem Mv.set2 {R g o : Nat} {w w' : World} {v : Value} (h : Mv R w w') (hg : w.heap.size ≤ g) : Mv R w (w'.setCell ⟨g, o, none⟩ v) :=
  ⟨h.os, h.tape, h.output, Nat.le_trans h.size (by simp), fun k hk hr => (Below.heap_setCell _ _ _ _ (show k ≠ g by omega)).trans (h.block k hk hr)⟩
theorem Rdr.mk2 {w X0 X : World} {R : Nat} {sl : Value} {p q : Int} (h0 : Rdr w R sl p) (hx : Rdr X0 R sl q) (mX : Mv R w X) (he : X.heap[R]? = X0.heap[R]?) : Rdr X R sl q := by
  have c : ∀ o, X.cell? ⟨R, o, none⟩ = X0.cell? ⟨R, o, none⟩ := fun o => by unfold World.cell?; rw [he]
  have f : ∀ o, X.frozen? ⟨R, o, none⟩ = X0.frozen? ⟨R, o, none⟩ := fun o => by unfold World.frozen?; rw [he]
  exact ⟨by rw [c]; exact hx.c0, by rw [c]; exact hx.c1, by rw [f]; exact hx.fz, h0.src_of mX⟩
theorem oneNd (R : Nat) (sl : Value) (p : Int) (vs : List Int) (n : Nat) (arr : Array Value) (t : TypeId) (w : World) (harr : arr = (vs.map fun v => Value.int .i64 v).toArray) (hn : n = vs.length) (h : Rdr w R sl p) (hp : 0 ≤ p) (hp' : p ≤ 1099511627776) (hl : 1 ≤ vs.length) (hl' : vs.length ≤ 100) :
    Calls Tryz.prog 50 #[.pointer (some ⟨R, 0, none⟩), .slice (some ⟨w.heap.size, 0, none⟩) n n] (w.alloc (.cells arr t)).drew fun e w' => ∃ u : Int, e = .returned (.int .i64 u) ∧ u ∈ vs ∧ Rdr w' R sl (p + 1) ∧ Mv R w w' := by
  subst harr hn
  have hlt := h.lt
  exact (oneM R w.heap.size sl p vs _ (h.later (below_box _ _)).drewW (by omega) hp hp' hl hl' (fun i hi => new_ints vs t w i hi)).mono
    fun _ _ ⟨u, he, hu, h1, h2⟩ => ⟨u, he, hu, h1, ((Mv.of_below (below_box _ _)).trans (Mv.of_drew R _)).trans h2⟩
/-- What holds behind k numbers of a drawn window. -/
def LW (R : Nat) (sl : Value) (p : Int) (w : World) (k : Nat) (wr : World) : Prop :=
  Mv R w wr ∧ wr.heap[w.heap.size]? = some (.cells #[.int .i64 0, .slice none 0 0] 43) ∧ (∃ q, 0 ≤ q ∧ q ≤ p + 2 + 2 * (k : Int) ∧ Rdr wr R sl q) ∧
    ∃ T L vk c, Rep T c L ∧ wr.heap[w.heap.size + 1]? = some (.cells #[.int .i64 T, vk] 43) ∧ wr.ownsRow (w.heap.size + 1 + 1) 3 1 vk L.length (i64s L)
set_option maxHeartbeats 2000000 in
set_option maxRecDepth 100000 in
theorem l12Window_any (R : Nat) (sl : Value) (p : Int) (w : World) (h : Rdr w R sl p) (hp : 0 ≤ p) (hp' : p ≤ 100000) :
    Calls Tryz.prog 174 #[.pointer (some ⟨R, 0, none⟩)] w (DW R sl p w) := by
  have hlt := h.lt
  have H := hid_in h
  clear h
  go_enter Tryz.func174, Tryz.ntmps174
  go_wp2_with fail
  have zW : Below w.heap.size w ((w.alloc (Obj.cells #[.int .i64 0, .slice none 0 0] 43)).alloc (Obj.cells #[.int .i64 0, .slice none 0 0] 43)) := by go_grown
  have sW : ((w.alloc (Obj.cells #[.int .i64 0, .slice none 0 0] 43)).alloc (Obj.cells #[.int .i64 0, .slice none 0 0] 43)).heap.size = w.heap.size + 1 + 1 := heapSize2 _ _ _
  have e0 : ((w.alloc (Obj.cells #[.int .i64 0, .slice none 0 0] 43)).alloc (Obj.cells #[.int .i64 0, .slice none 0 0] 43)).heap[w.heap.size]? = some (.cells #[.int .i64 0, .slice none 0 0] 43) := by rw [(below_box _ _).block _ (by simp)]; exact heap_new _ _ _ rfl
  have e1 : ((w.alloc (Obj.cells #[.int .i64 0, .slice none 0 0] 43)).alloc (Obj.cells #[.int .i64 0, .slice none 0 0] 43)).heap[w.heap.size + 1]? = some (.cells #[.int .i64 0, .slice none 0 0] 43) := heap_new _ _ _ (by simp)
  generalize ((w.alloc (Obj.cells #[.int .i64 0, .slice none 0 0] 43)).alloc (Obj.cells #[.int .i64 0, .slice none 0 0] 43)) = W at *
  refine (pickM R sl p 20 _ (H.out.later zW) (by omega) (by omega) (by omega) (by omega)).mono ?_
  rintro e w1 ⟨u1, rfl, a1, b1, h1, m1⟩
  have H1 := hid_in h1; have M1 := hid_in m1; clear h1 m1
  go_wp2_with fail
  refine (pickM R sl _ 9 _ H1.out (by omega) (by omega) (by omega) (by omega)).mono ?_
  rintro e w2 ⟨u2, rfl, a2, b2, h2, m2⟩
  have H2 := hid_in h2; have M2 := hid_in (M1.out.trans m2); clear h2 m2 H1 M1
  obtain ⟨N, rfl⟩ := Int.eq_ofNat_of_zero_le a2
  have hN : N ≤ 8 := by omega
  have I0 : Hid (LW R sl p w 0 w2) := by
    show LW _ _ _ _ _ _
    exact ⟨(Mv.of_below zW).trans M2.out, by rw [M2.out.block _ (by omega) (by omega)]; exact e0, ⟨p + 1 + 1, by omega, by omega, H2.out⟩, 0, [], .slice none 0 0, 0, rep_nil, by rw [M2.out.block _ (by omega) (by omega)]; exact e1, World.ownsRow_nil _ _ _ _⟩
  clear M2 H2 e0 e1 zW sW
  go_wp2_with fail
  go_loopw [4, 5] (fun va vn wr => ∃ (k : Nat) (at_ : Int), k ≤ N ∧ 0 ≤ at_ ∧ at_ ≤ 20 + 20 * (k : Int) ∧ va = .int .i64 at_ ∧ vn = .int .i64 ((N - k : Nat) : Int) ∧ Hid (LW R sl p w k wr)) (fun _ vn _ => (intOf vn).toNat)
  case atStart => exact ⟨0, u1, Nat.zero_le _, by omega, by omega, rfl, by simp, I0⟩
  case round =>
    obtain ⟨k, at_, hk, ha0, ha1, rfl, rfl, HW⟩ := hrel
    obtain ⟨hM, hE0, ⟨q, hq1, hq2, hR⟩, T, L, vk, c, hrep, hB, ho⟩ := HW.out
    obtain ⟨av, cv, rfl⟩ := owns_form ho
    have HM := hid_in hM; have HE0 := hid_in hE0; have HRd := hid_in hR; have HC := hid_in hrep; have HB := hid_in hB; have HO := hid_in ho
    have hz := hM.size
    have hBl : w.heap.size + 1 < wr.heap.size := (Array.getElem?_eq_some_iff.1 hB).1
    obtain ⟨q0, q1, f0, f1⟩ := pair_cells hB
    have hRB : ¬ R = w.heap.size + 1 := by omega
    clear hM hE0 hR hrep hB ho HW
    by_cases hk' : k < N
    · have hd : (0 : Int) < ((N - k : Nat) : Int) := by omega
      go_wp2_with fail
      go_region_with (first | (go_at_call 51; refine (pickM R sl q 9 _ ?_ (by omega) (by omega) (by omega) (by omega)).mono ?_; exact HRd.out.drewW; rintro e w5 ⟨u5, rfl, a5, b5, h5, m5⟩; have m5' := (Mv.of_drew R wr).trans m5; have t0 : w5.cell? ⟨w.heap.size + 1, 0, none⟩ = some (.int .i64 T) := (m5'.cell _ _ hBl (by omega)).trans q0; have t1 : w5.cell? ⟨w.heap.size + 1, 1, none⟩ = some (.slice av L.length cv) := (m5'.cell _ _ hBl (by omega)).trans q1; have t2 : w5.frozen? ⟨w.heap.size + 1, 0, none⟩ = false := (m5'.frozen _ _ hBl (by omega)).trans f0; have t3 : w5.frozen? ⟨w.heap.size + 1, 1, none⟩ = false := (m5'.frozen _ _ hBl (by omega)).trans f1; have H5 := hid_in h5; have M5 := hid_in m5'; clear h5 m5 m5') | (go_at_call 122; refine (l7See_any T _ c L _ _ ?_ HC.out).mono ?_; exact owns_il (owns_mvW HO.out M5.out (fun j hj => by have := (owns_own HO.out j hj).1; omega)); rintro e w6 ⟨v6, m6, rfl, o6, hb6⟩; obtain ⟨a6, c6, e6⟩ := owns_form o6; subst e6; have l5 : w.heap.size + 1 < w5.heap.size := Nat.lt_of_lt_of_le hBl M5.out.size; have t0 := ((bcell hb6).1 _ _ l5).trans t0; have t1 := ((bcell hb6).1 _ _ l5).trans t1; have t2 := ((bcell hb6).2 _ 0 l5).trans t2; have t3 := ((bcell hb6).2 _ 1 l5).trans t3; have O6 := hid_in o6; have B6 := hid_in hb6; clear o6 hb6))
      all_goals
        generalize IntKind.i64.wrap (IntKind.i64.wrap (at_ + u5) - 3) = nn at *
        have hl6 := owns_len O6.out
        have s5 := M5.out.size
        have s6 := B6.out.size
        have hR6 : w6.heap[R]? = w5.heap[R]? := B6.out.block R (by omega)
        have mX : Mv R w ((w6.setCell ⟨w.heap.size + 1, 0, none⟩ (.int .i64 (topL T L nn))).setCell ⟨w.heap.size + 1, 1, none⟩ (.slice a6 m6 c6)) := (((HM.out.trans M5.out).trans (Mv.of_below B6.out)).set2 (by omega)).set2 (by omega)
        have RX := hid_in (H.out.mk2 H5.out mX (by rw [Below.heap_setCell _ _ _ _ (show R ≠ w.heap.size + 1 by omega), Below.heap_setCell _ _ _ _ (show R ≠ w.heap.size + 1 by omega)]; exact hR6))
        have MX := hid_in mX
        have eB : w6.heap[w.heap.size + 1]? = some (.cells #[.int .i64 T, .slice av L.length cv] 43) := by rw [B6.out.block _ (by omega), M5.out.block _ (by omega) (by omega)]; exact HB.out
        have EB : Hid (((w6.setCell ⟨w.heap.size + 1, 0, none⟩ (.int .i64 (topL T L nn))).setCell ⟨w.heap.size + 1, 1, none⟩ (.slice a6 m6 c6)).heap[w.heap.size + 1]? = some (.cells #[.int .i64 (topL T L nn), .slice a6 m6 c6] 43)) := by
          show _ = _
          rw [set_pair _ _ eB]
          exact wput_get (by omega)
        have E0 : Hid (((w6.setCell ⟨w.heap.size + 1, 0, none⟩ (.int .i64 (topL T L nn))).setCell ⟨w.heap.size + 1, 1, none⟩ (.slice a6 m6 c6)).heap[w.heap.size]? = some (.cells #[.int .i64 0, .slice none 0 0] 43)) := by
          show _ = _
          rw [Below.heap_setCell _ _ _ _ (show w.heap.size ≠ w.heap.size + 1 by omega), Below.heap_setCell _ _ _ _ (show w.heap.size ≠ w.heap.size + 1 by omega), B6.out.block _ (by omega), M5.out.block _ (by omega) (by omega)]
          exact HE0.out
        have OX := hid_in (ownsW_base (owns_set2 (b := w.heap.size + 1) (o := 1) (u := .slice a6 m6 c6) (owns_set2 (b := w.heap.size + 1) (o := 0) (u := .int .i64 (topL T L nn)) O6.out (fun e => by have := (owns_own O6.out _ e).1; omega)) (fun e => by have := (owns_own O6.out _ e).1; omega)) (show w.heap.size + 1 + 1 ≤ w5.heap.size by omega))
        have LX : w.heap.size + 1 < ((w6.setCell ⟨w.heap.size + 1, 0, none⟩ (.int .i64 (topL T L nn))).setCell ⟨w.heap.size + 1, 1, none⟩ (.slice a6 m6 c6)).heap.size := by simp; omega
        obtain ⟨⟨_, c', hrep'⟩⟩ : Nonempty _ := ⟨listL_len (n := nn) HC.out⟩
        have HC' := hid_in hrep'
        clear q0 q1 f0 f1 t0 t1 t2 t3 eB mX hR6 hrep'
        generalize ((w6.setCell ⟨w.heap.size + 1, 0, none⟩ (.int .i64 (topL T L nn))).setCell ⟨w.heap.size + 1, 1, none⟩ (.slice a6 m6 c6)) = X at *
        go_wp2_with fail
        refine (oneN R sl (q + 1) [1, 1, 2, 20] 4 _ 3 X rfl rfl RX.out (by omega) (by omega) (by simp) (by simp)).mono ?_
        rintro e w7 ⟨u7, rfl, hu7, h7, m7⟩
        have hu8 : 0 ≤ u7 ∧ u7 ≤ 20 := by
          simp only [List.mem_cons, List.not_mem_nil, or_false] at hu7
          omega
        obtain ⟨d0, d1⟩ := hu8
        have H7 := hid_in h7; have M7 := hid_in m7
        clear h7 m7 hu7
        go_wp2_with fail
        refine ⟨⟨k + 1, at_ + u7, by omega, by omega, by omega, rfl, by simp; omega, ?_⟩, by simp [intOf]; omega⟩
        show LW _ _ _ _ _ _
        exact ⟨MX.out.trans M7.out, by rw [M7.out.block _ (by omega) (by omega)]; exact E0.out, ⟨q + 1 + 1, by omega, by omega, H7.out⟩, _, listL T L nn, _, c', HC'.out, by rw [M7.out.block _ (by omega) (by omega)]; exact EB.out, by rw [← hl6]; exact owns_mvW OX.out M7.out (fun j hj => by have := (owns_own OX.out j hj).1; omega)⟩
    · have hd : ¬ (0 : Int) < ((N - k : Nat) : Int) := by omega
      have hd' : decide ((0 : Int) < ((N - k : Nat) : Int)) = false := by simp; omega
      obtain ⟨y0, y1, y2, y3⟩ := pair_cells HE0.out
      go_wp2_with fail
      exact bodyPost_ret (v := .agg #[.int .i64 T, .slice av L.length cv]) (by simp [results, Tryz.results174, go_sem, y0, y1]) rfl
        ⟨T, L, _, q, c, rfl, HC.out, ownsW_base (owns_set (owns_set HO.out (by omega)) (by omega)) (by omega), by omega, by omega, H.out.mk2 HRd.out ((HM.out.set2 (Nat.le_refl _)).set2 (Nat.le_refl _)) (by rw [Below.heap_setCell _ _ _ _ (show R ≠ w.heap.size by omega), Below.heap_setCell _ _ _ _ (show R ≠ w.heap.size by omega)]), (HM.out.set2 (Nat.le_refl _)).set2 (Nat.le_refl _)⟩
/-- What a drawn window is that may be spoilt. -/
def DWA (R : Nat) (sl : Value) (p : Int) (w : World) (e : Ending) (w' : World) : Prop :=
  ∃ T L v q, e = .returned (.agg #[.int .i64 T, v]) ∧ -1 ≤ T ∧ T ≤ 1000020 ∧ L.length ≤ 17 ∧ w'.ownsRow w.heap.size 3 1 v L.length (i64s L) ∧ 0 ≤ q ∧ q ≤ p + 200 ∧ Rdr w' R sl q ∧ Mv R w w'
set_option maxHeartbeats 2000000 in
set_option maxRecDepth 100000 in
theorem l12AnyWindow_any (R : Nat) (sl : Value) (p : Int) (w : World) (h : Rdr w R sl p) (hp : 0 ≤ p) (hp' : p ≤ 100000) :
    Calls Tryz.prog 126 #[.pointer (some ⟨R, 0, none⟩)] w (DWA R sl p w) := by
  have hlt := h.lt
  have H := hid_in h
  clear h
  go_enter Tryz.func126, Tryz.ntmps126
  go_wp2_with fail
  have zW := below_box w (Obj.cells #[.int .i64 0, .slice none 0 0] 43)
  have sW : (w.alloc (Obj.cells #[.int .i64 0, .slice none 0 0] 43)).heap.size = w.heap.size + 1 := heapSize1 _ _
  have e0 : (w.alloc (Obj.cells #[.int .i64 0, .slice none 0 0] 43)).heap[w.heap.size]? = some (.cells #[.int .i64 0, .slice none 0 0] 43) := heap_new _ _ _ rfl
  generalize w.alloc (Obj.cells #[.int .i64 0, .slice none 0 0] 43) = W at *
  refine (l12Window_any R sl p _ (H.out.later zW) hp hp').mono ?_
  rintro e w1 ⟨T, L, v, q, c, rfl, hr, ho, hq1, hq2, h1, m1⟩
  obtain ⟨a1, c1, rfl⟩ := owns_form ho
  have hll := repW_len hr
  have hT0 := hr.t0; have hT1 := hr.t1
  have s1 := m1.size
  have e1 : (w1.alloc (Obj.cells #[.int .i64 T, .slice a1 L.length c1] 43)).heap[w.heap.size]? = some (.cells #[.int .i64 0, .slice none 0 0] 43) := by rw [(below_box w1 _).block _ (by omega), m1.block _ (by omega) (by omega)]; exact e0
  have e2 : (w1.alloc (Obj.cells #[.int .i64 T, .slice a1 L.length c1] 43)).heap[w1.heap.size]? = some (.cells #[.int .i64 T, .slice a1 L.length c1] 43) := heap_new _ _ _ rfl
  have M1 := hid_in (((Mv.of_below zW).trans m1).trans (Mv.of_below (below_box w1 (Obj.cells #[.int .i64 T, .slice a1 L.length c1] 43))))
  have R1 := hid_in (h1.later (below_box w1 (Obj.cells #[.int .i64 T, .slice a1 L.length c1] 43)))
  have O1 := hid_in (ownsW_base (owns_below ho (below_box w1 (Obj.cells #[.int .i64 T, .slice a1 L.length c1] 43))) (show w.heap.size + 1 ≤ W.heap.size by omega))
  have hob : Hid (∀ j, (Value.slice a1 L.length c1).ownBlock = some j → j < w1.heap.size) := fun j hj => (owns_own ho j hj).2
  have sX : (w1.alloc (Obj.cells #[.int .i64 T, .slice a1 L.length c1] 43)).heap.size = w1.heap.size + 1 := heapSize1 _ _
  go_wp2_with fail
  clear m1 h1 ho hr zW e0
  generalize hbx : w1.heap.size = bx at *
  generalize (w1.alloc (Obj.cells #[.int .i64 T, .slice a1 L.length c1] 43)) = X at *
  clear hbx
  refine (pickM R sl q 16 _ R1.out (by omega) (by omega) (by omega) (by omega)).mono ?_
  rintro e w2 ⟨u2, rfl, a2, b2, h2, m2⟩
  have s2 := m2.size
  have E1 : w2.heap[w.heap.size]? = some (.cells #[.int .i64 0, .slice none 0 0] 43) := by rw [m2.block _ (by omega) (by omega)]; exact e1
  have E2 : w2.heap[bx]? = some (.cells #[.int .i64 T, .slice a1 L.length c1] 43) := by rw [m2.block _ (by omega) (by omega)]; exact e2
  have M2 := hid_in (M1.out.trans m2); have R2 := hid_in h2
  have O2 := hid_in (owns_mvW O1.out m2 (fun j hj => by have := (owns_own O1.out j hj).1; omega))
  have HE1 := hid_in E1; have HE2 := hid_in E2
  obtain ⟨y0, y1, y2, y3⟩ := pair_cells E1
  obtain ⟨x0, x1, x2, x3⟩ := pair_cells E2
  have lx : bx < w2.heap.size := by omega
  clear m2 h2 e1 e2 E1 E2 M1 R1 O1
  have hRb : ¬ R = bx := by omega
  have hwb : ¬ w.heap.size = bx := by omega
  have hbw : ¬ bx = w.heap.size := by omega
  by_cases hu0 : u2 = 0
  · subst hu0
    go_wp2_with fail
    go_region_with (first | (go_at_call 50; refine (oneNd R sl (q + 1) [1, -1, 20] 3 _ 3 w2 rfl rfl R2.out (by omega) (by omega) (by simp) (by simp)).mono ?_; rintro e w5 ⟨u5, rfl, hu5, h5, m5⟩; have m5' := m5; have x0 := (m5'.cell _ 0 lx (by omega)).trans x0; have x1 := (m5'.cell _ 1 lx (by omega)).trans x1; have x2 := (m5'.frozen _ 0 lx (by omega)).trans x2; have x3 := (m5'.frozen _ 1 lx (by omega)).trans x3; have y0 := (m5'.cell w.heap.size 0 (by omega) (by omega)).trans y0; have y1 := (m5'.cell w.heap.size 1 (by omega) (by omega)).trans y1; have y2 := (m5'.frozen w.heap.size 0 (by omega) (by omega)).trans y2; have y3 := (m5'.frozen w.heap.size 1 (by omega) (by omega)).trans y3; have hu6 : -1 ≤ u5 ∧ u5 ≤ 20 := (by simp only [List.mem_cons, List.not_mem_nil, or_false] at hu5; omega); have hw5 : IntKind.i64.wrap (T + u5) = T + u5 := (by rw [IntKind.wrap_i64]; omega); have H5 := hid_in h5; have M5 := hid_in m5'; clear h5 m5 m5' hu5))
    all_goals
      obtain ⟨d0, d1⟩ := hu6
      have s5 := M5.out.size
      go_wp2_with fail
      exact bodyPost_ret (v := .agg #[.int .i64 (T + u5), .slice a1 L.length c1]) (by simp [results, Tryz.results126, go_sem, y0, y1, hwb]) rfl
        ⟨T + u5, L, _, q + 1 + 1, rfl, by omega, by omega, by omega,
          ownsW_base (owns_set (owns_set (owns_set2 (b := bx) (owns_mvW O2.out M5.out (fun j hj => by have := (owns_own O2.out j hj).1; omega)) (fun e => by have := hob.out _ e; omega)) (by omega)) (by omega)) (by omega), by omega, by omega,
          H.out.mk2 H5.out ((((M2.out.trans M5.out).set2 (by omega)).set2 (Nat.le_refl _)).set2 (Nat.le_refl _)) (by rw [Below.heap_setCell _ _ _ _ (show R ≠ w.heap.size by omega), Below.heap_setCell _ _ _ _ (show R ≠ w.heap.size by omega), Below.heap_setCell _ _ _ _ (show R ≠ bx by omega)]), (((M2.out.trans M5.out).set2 (by omega)).set2 (Nat.le_refl _)).set2 (Nat.le_refl _)⟩
  · have hu0' : (u2 == 0) = false := by simpa using hu0
    by_cases hu1 : u2 = 1
    · subst hu1
      go_wp2_with fail
      go_region_law (first | (refine stepI_append rfl (.tmp 20) (.tmp 23) rfl (w.heap.size + 1) (.slice a1 L.length c1) L.length L rfl (O5.out.alloc _) _ [u5] rfl (IL.one2 (by simp)) (by simp; omega) (by rw [heapSize1]; have := M5.out.size; omega) ?_; intro v6 w6 o6 g6 n6; have k1 := fun o => grown_cells g6 bx o (by rw [heapSize1]; have := M5.out.size; omega) (fun e => by have := hob.out _ e; omega); have k2 := fun o => grown_cells g6 w.heap.size o (by rw [heapSize1]; have := M5.out.size; omega) (fun e => by have := (owns_own O5.out _ e).1; omega); have k3 := bcell (below_box w5 (Obj.cells #[.int .i64 u5] 3)); have l5 := M5.out.size; have x0 := (k1 0).1.trans ((k3.1 _ _ (by omega)).trans x0); have x1 := (k1 1).1.trans ((k3.1 _ _ (by omega)).trans x1); have x2 := (k1 0).2.trans ((k3.2 _ _ (by omega)).trans x2); have x3 := (k1 1).2.trans ((k3.2 _ _ (by omega)).trans x3); have y0 := (k2 0).1.trans ((k3.1 _ _ (by omega)).trans y0); have y1 := (k2 1).1.trans ((k3.1 _ _ (by omega)).trans y1); have y2 := (k2 0).2.trans ((k3.2 _ _ (by omega)).trans y2); have y3 := (k2 1).2.trans ((k3.2 _ _ (by omega)).trans y3); obtain ⟨a6, c6, e6⟩ := owns_form o6; subst e6; have O6 := hid_in o6; have G6 := hid_in g6; clear o6 g6 n6 k1 k2 k3) | (go_simp; go_at_call 51; refine (pickM R sl (q + 1) 30 _ ?_ (by omega) (by omega) (by omega) (by omega)).mono ?_; exact R2.out.drewW; rintro e w5 ⟨u5, rfl, a5, b5, h5, m5⟩; have m5' := (Mv.of_drew R w2).trans m5; have x0 := (m5'.cell _ 0 lx (by omega)).trans x0; have x1 := (m5'.cell _ 1 lx (by omega)).trans x1; have x2 := (m5'.frozen _ 0 lx (by omega)).trans x2; have x3 := (m5'.frozen _ 1 lx (by omega)).trans x3; have y0 := (m5'.cell w.heap.size 0 (by omega) (by omega)).trans y0; have y1 := (m5'.cell w.heap.size 1 (by omega) (by omega)).trans y1; have y2 := (m5'.frozen w.heap.size 0 (by omega) (by omega)).trans y2; have y3 := (m5'.frozen w.heap.size 1 (by omega) (by omega)).trans y3; have lx5 : bx < w5.heap.size := Nat.lt_of_lt_of_le lx m5'.size; have lx6 : ¬ bx = w5.heap.size := Nat.ne_of_lt lx5; have O5 := hid_in (owns_mvW O2.out m5' (fun j hj => by have := (owns_own O2.out j hj).1; omega)); have H5 := hid_in h5; have M5 := hid_in m5'; clear h5 m5 m5'))
      all_goals
        have s5 := M5.out.size
        have s6 := G6.out.size
        rw [heapSize1] at s6
        have E6 : w6.heap[bx]? = some (.cells #[.int .i64 T, .slice a1 L.length c1] 43) := by
          rw [G6.out.block bx (by rw [heapSize1]; omega) (fun e => by have := hob.out _ e.symm; omega), (below_box w5 _).block _ lx5, M5.out.block _ lx (by omega)]
          exact HE2.out
        have NB6 : (Value.slice a6 (L.length + [u5].length) c6).ownBlock ≠ some bx := by
          intro e6
          rcases O6.out.2 with ⟨h6, _⟩ | ⟨g, cc, cur, h6, _, h3, _⟩
          · rw [h6] at e6; cases e6
          · rw [h6] at e6
            have e7 : g = bx := Option.some.inj e6
            rw [e7, E6] at h3
            simp at h3
        have mX : Mv R w w6 := Mv.grownB (M2.out.trans M5.out) (below_box _ _) G6.out (fun g hg => by have := (owns_own O5.out g hg).1; omega)
        have eR : w6.heap[R]? = w5.heap[R]? := by rw [G6.out.block R (by rw [heapSize1]; omega) (fun e => by have := (owns_own O5.out _ e.symm).1; omega), (below_box w5 _).block _ (by omega)]
        have NBH := hid_in NB6; have MX := hid_in mX; have ER := hid_in eR
        clear E6 NB6 mX eR
        go_wp2_with fail
        exact bodyPost_ret (v := .agg #[.int .i64 T, .slice a6 (L.length + 1) c6]) (by simp [results, Tryz.results126, go_sem, y0, y1, hwb]) rfl
          ⟨T, L ++ [u5], _, q + 1 + 1, rfl, by omega, by omega, by simp; omega,
            by rw [List.length_append]; exact ownsW_base (owns_set (owns_set (owns_set2 (b := bx) O6.out NBH.out) (by omega)) (by omega)) (by omega), by omega, by omega,
            H.out.mk2 H5.out (((MX.out.set2 (by omega)).set2 (Nat.le_refl _)).set2 (Nat.le_refl _)) (by rw [Below.heap_setCell _ _ _ _ (show R ≠ w.heap.size by omega), Below.heap_setCell _ _ _ _ (show R ≠ w.heap.size by omega), Below.heap_setCell _ _ _ _ (show R ≠ bx by omega)]; exact ER.out), ((MX.out.set2 (by omega)).set2 (Nat.le_refl _)).set2 (Nat.le_refl _)⟩
    · have hu1' : (u2 == 1) = false := by simpa using hu1
      go_wp2_with fail
      exact bodyPost_ret (v := .agg #[.int .i64 T, .slice a1 L.length c1]) (by simp [results, Tryz.results126, go_sem, y0, y1]) rfl
        ⟨T, L, _, q + 1, rfl, by omega, by omega, by omega, ownsW_base (owns_set (owns_set O2.out (by omega)) (by omega)) (by omega), by omega, by omega, H.out.mk2 R2.out ((M2.out.set2 (Nat.le_refl _)).set2 (Nat.le_refl _)) (by rw [Below.heap_setCell _ _ _ _ (show R ≠ w.heap.size by omega), Below.heap_setCell _ _ _ _ (show R ≠ w.heap.size by omega)]), (M2.out.set2 (Nat.le_refl _)).set2 (Nat.le_refl _)⟩
end Go.Proofs.YtefmmopkikpnhaaGreatDoor

