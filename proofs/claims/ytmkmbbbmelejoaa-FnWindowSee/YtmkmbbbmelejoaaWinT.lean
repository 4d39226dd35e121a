/- What is proved: the walk of the law FnWindowSee. The conditions stand at each theorem. -/
import Derived.Test.YtmkmbbbmelejoaaWinS
import Derived.Test.YtmkmbbbmelejoaaWinQ
import Derived.Test.YtmkmbbbmelejoaaWinO
namespace Go.Proofs.Ytmkmbbbmelejoaa
open Go.RowKit Go.LatT Go.BlockM Go.OpnT Go.WinMath Go.RegE
set_option linter.unusedVariables false
set_option linter.unusedSimpArgs false
theorem gE_mem {L : List Int} {i : Nat} (h : i < L.length) : gE L i ∈ L := mem_get.2 ⟨i, h, rfl⟩
theorem gE_asc {L : List Int} (h : L.Pairwise (· < ·)) {i j : Nat} (hij : i < j) (hj : j < L.length) : gE L i < gE L j := by
  have := List.pairwise_iff_getElem.1 h i j (by omega) hj hij
  simpa [gE, hj, show i < L.length by omega] using this
theorem rep_wok {T : Int} {c : Nat} {L : List Int} (h : Rep T c L) (h0 : L = [] → T = 0) (h1 : L ≠ [] → T ∈ L) : WOk T L.length (gE L) := by
  by_cases hL : L = []
  · subst hL; exact .inl ⟨rfl, h0 rfl⟩
  · have hpos : 0 < L.length := List.length_pos_iff.2 hL
    have hw : IntKind.i64.wrap (T - 16) = T - 16 := by have := h.t0; have := h.t1; rw [IntKind.wrap_i64]; omega
    refine .inr ⟨hpos, fun i hi => ?_, ?_, h.t1⟩
    · have hm := h.mem _ (gE_mem hi)
      rintro (a | a | ⟨a, b⟩)
      · rw [hw] at a; omega
      · omega
      · have := gE_asc h.asc (show i - 1 < i by omega) hi
        omega
    · obtain ⟨j, hj, e⟩ := mem_get.1 (h1 hL)
      have hm := h.mem _ (gE_mem (show L.length - 1 < L.length by omega))
      by_cases hjl : j = L.length - 1
      · rw [← hjl]; exact e
      · have h2 := gE_asc h.asc (show j < L.length - 1 by omega) (by omega)
        have h3 : gE L j = T := e
        omega
theorem wok_top {T : Int} {L : List Int} (h : WOk T L.length (gE L)) : (L = [] → T = 0) ∧ (L ≠ [] → T ∈ L) := by
  rcases h with ⟨h0, h1⟩ | ⟨h0, _, h2, _⟩
  · exact ⟨fun _ => h1, fun hne => absurd (List.length_eq_zero_iff.1 h0) hne⟩
  · refine ⟨fun e => by subst e; simp at h0, fun _ => ?_⟩
    have := gE_mem (show L.length - 1 < L.length by omega)
    rw [h2] at this
    exact this
theorem code0_iff {T n : Int} {L : List Int} : codeL T L n = 0 ↔ (1 ≤ n ∧ n ≤ 1000000 ∧ T - 16 < n ∧ n ∉ L) := by
  unfold codeL
  split
  · constructor
    · intro h; simp at h
    · intro h; omega
  · split
    · constructor
      · intro h; simp at h
      · intro h; omega
    · split
      · rename_i hm
        constructor
        · intro h; simp at h
        · intro h; exact absurd hm h.2.2.2
      · rename_i a b d
        exact ⟨fun _ => ⟨by omega, by omega, by omega, d⟩, fun _ => rfl⟩
theorem mem_list0 {T n x : Int} {L : List Int} (hc : codeL T L n = 0) : x ∈ listL T L n ↔ (x = n ∨ x ∈ L) ∧ topL T L n - 16 < x := by
  unfold listL
  rw [if_pos hc, List.mem_filter, mem_ins]
  simp
theorem top0 {T n : Int} {L : List Int} (hc : codeL T L n = 0) : topL T L n = if T < n then n else T := by
  unfold topL
  simp [hc]
theorem not0 {T n : Int} {L : List Int} (hc : codeL T L n ≠ 0) : topL T L n = T ∧ listL T L n = L := by
  unfold topL listL
  rw [if_neg (fun h => hc h.1), if_neg hc]
  exact ⟨rfl, rfl⟩
theorem see_wok {T n : Int} {L : List Int} (hw : WOk T L.length (gE L)) : WOk (topL T L n) (listL T L n).length (gE (listL T L n)) := by
  obtain ⟨c, hr⟩ := wok_rep hw
  rw [LE_gE] at hr
  obtain ⟨t0, t1⟩ := wok_top hw
  obtain ⟨_, c', hr'⟩ := listL_len (n := n) hr
  by_cases hc : codeL T L n = 0
  · obtain ⟨b1, b2, b3, b4⟩ := code0_iff.1 hc
    have hz := hr.t0
    have hn : n ∈ listL T L n := (mem_list0 hc).2 ⟨.inl rfl, by rw [top0 hc]; split <;> omega⟩
    refine rep_wok hr' (fun e => by rw [e] at hn; cases hn) (fun _ => ?_)
    rw [top0 hc]
    split
    · exact hn
    · rename_i hlt
      have hL : L ≠ [] := fun e => by have := t0 e; omega
      have := t1 hL
      refine (mem_list0 hc).2 ⟨.inr this, ?_⟩
      rw [top0 hc, if_neg hlt]; omega
  · obtain ⟨e1, e2⟩ := not0 hc
    rw [e1, e2]
    exact hw
theorem see_again {T n : Int} {L : List Int} (hc : codeL T L n = 0) : codeL (topL T L n) (listL T L n) n = 3 := by
  obtain ⟨b1, b2, b3, b4⟩ := code0_iff.1 hc
  have hlt : topL T L n - 16 < n := by rw [top0 hc]; split <;> omega
  have hn : n ∈ listL T L n := (mem_list0 hc).2 ⟨.inl rfl, hlt⟩
  unfold codeL
  rw [if_neg (by omega), if_neg (by omega), if_pos hn]
theorem windowOkI2 (t : Int) (v : Value) (L : List Int) (w : World) (hL : IL w v L) (hl : L.length ≤ 1048576) :
    Calls Try.prog 9 #[.agg #[.int .i64 t, v]] w fun e w' => ∃ b, e = .returned (.bool b) ∧ (b = true ↔ WOk t L.length (gE L)) ∧ Below w.heap.size w w' := by
  obtain ⟨a, cap, rfl, hI⟩ := hL.ints
  exact windowOkI t a L.length cap (gE L) w hI hl
theorem windowOkS2 (t : Int) (v : Value) (L : List Int) (w : World) (hL : IL w v L) (hl : L.length ≤ 1048576) :
    Calls Try.prog 10 #[.agg #[.int .i64 t, v]] w fun e w' => ∃ b, e = .returned (.bool b) ∧ (b = true ↔ WOk t L.length (gE L)) ∧ Below w.heap.size w w' := by
  obtain ⟨a, cap, rfl, hI⟩ := hL.ints
  exact windowOkS t a L.length cap (gE L) w hI hl
theorem bool_of {b ok : Bool} {P : Prop} (h1 : b = true ↔ P) (h2 : ok = true ↔ P) : b = ok := by
  rw [Bool.eq_iff_iff, h1, h2]
theorem windowOkI3 (t : Int) (v : Value) (L : List Int) (w : World) (hL : IL w v L) (hl : L.length ≤ 1048576) (ok : Bool) (hok : ok = true ↔ WOk t L.length (gE L)) :
    Calls Try.prog 9 #[.agg #[.int .i64 t, v]] w fun e w' => e = .returned (.bool ok) ∧ Below w.heap.size w w' :=
  (windowOkI2 t v L w hL hl).mono fun _ _ ⟨b, he, hb, hz⟩ => ⟨by rw [he, bool_of hb hok], hz⟩
theorem windowOkS3 (t : Int) (v : Value) (L : List Int) (w : World) (hL : IL w v L) (hl : L.length ≤ 1048576) (ok : Bool) (hok : ok = true ↔ WOk t L.length (gE L)) :
    Calls Try.prog 10 #[.agg #[.int .i64 t, v]] w fun e w' => e = .returned (.bool ok) ∧ Below w.heap.size w w' :=
  (windowOkS2 t v L w hL hl).mono fun _ _ ⟨b, he, hb, hz⟩ => ⟨by rw [he, bool_of hb hok], hz⟩
set_option maxHeartbeats 1000000 in
set_option maxRecDepth 100000 in
theorem ovWindow_same (t : Int) (v1 v2 : Value) (L : List Int) (w : World) (h1 : IL w v1 L) (h2 : IL w v2 L) (hl : L.length ≤ 1048576) :
    Calls Try.prog 8 #[.agg #[.int .i64 t, v1], .agg #[.int .i64 t, v2]] w fun e w' => e = .returned (.bool true) ∧ Below w.heap.size w w' := by
  have H1 := hid_in h1; have H2 := hid_in h2
  obtain ⟨a1, c1, rfl⟩ := h1.form
  obtain ⟨a2, c2, rfl⟩ := h2.form
  clear h1 h2
  go_enter Try.func8, Try.ntmps8
  go_wp2_with fail
  refine (ovI_any _ _ L _ (H1.out.later (by go_grown)) (H2.out.later (by go_grown)) hl).mono ?_
  rintro e w3 ⟨rfl, hb3⟩
  have B := hid_in (below_later (below_later (below_box w _) (below_box _ _)) hb3)
  clear hb3
  go_wp2_with fail
  go_ret
  exact ⟨rfl, B.out⟩
/-- What lies where. -/
structure VSt (w : World) (T T' : Int) (v gv sv : Value) (L L' : List Int) (D G S : Nat) (x : World) : Prop where
  z : Below w.heap.size w x
  d : WBox x D T v
  g : WBox x G T' gv
  s : WBox x S T' sv
  il : IL x v L
  ig : IL x gv L'
  is : IL x sv L'
theorem VSt.later {w x y : World} {T T' : Int} {v gv sv : Value} {L L' : List Int} {D G S : Nat} (h : VSt w T T' v gv sv L L' D G S x) (hb : Below x.heap.size x y) : VSt w T T' v gv sv L L' D G S y :=
  ⟨below_later h.z hb, h.d.later hb, h.g.later hb, h.s.later hb, h.il.later hb, h.ig.later hb, h.is.later hb⟩
theorem VSt.drew {w x : World} {T T' : Int} {v gv sv : Value} {L L' : List Int} {D G S : Nat} (h : VSt w T T' v gv sv L L' D G S x) : VSt w T T' v gv sv L L' D G S x.drew := h.later (Below.refl _ _).drew
set_option maxHeartbeats 4000000 in
set_option maxRecDepth 100000 in
theorem walk_FnWindowSee (a : Option Addr) (len cap : Nat) (z : List Int) (w : World) (h : RowC w a len cap z) :
    Calls Try.prog 3 #[.slice a len cap] w fun e w' => e = .returned (.bool true) ∧ Below w.heap.size w w' := by
  have HR := hid_in h
  clear h
  by_cases hlen : len ≤ 1048576
  · have hd : decide ((1048576 : Int) < (len : Int)) = false := by simp; omega
    go_enter Try.func3, Try.ntmps3
    go_wp2_with fail
    refine (drawWindowSee a len cap z _ HR.out hlen).mono ?_
    rintro e w1 ⟨T, L, v, n, rfl, hL, o1, hb1⟩
    obtain ⟨a1, c1, rfl⟩ := owns_form o1
    have O1 := hid_in o1; have Z1 := hid_in hb1
    clear o1 hb1
    go_wp2_with fail
    refine (windowSeeI T n _ L _ ((owns_il O1.out).later (below_box _ _)) (by omega)).mono ?_
    rintro e w2 ⟨T', L', k', v2, rfl, o2, hb2, res2⟩
    obtain ⟨a2, c2, rfl⟩ := owns_form o2
    have hl' := res2.len
    have D2 := hid_in ((WBox.new w1 T (.slice a1 L.length c1) 25).later hb2)
    have Z2 := hid_in (below_later (below_later Z1.out (below_box w1 _)) hb2); have I2 := hid_in ((owns_il O1.out).later (below_later (below_box w1 _) hb2)); have G2 := hid_in (owns_il o2)
    have RES := hid_in res2
    obtain ⟨l0, k0, k1⟩ := D2.out
    clear hb2 o2 res2 Z1 O1
    go_wp2_with fail
    clear l0 k0 k1
    refine (windowSeeS T n _ L _ (I2.out.later (below_box _ _)) (by omega)).mono ?_
    rintro e w3 ⟨T3, L3, k3, v3, rfl, o3, hb3, res3⟩
    obtain ⟨rfl, rfl, rfl⟩ := Res.same RES.out res3
    obtain ⟨a3, c3, rfl⟩ := owns_form o3
    have hb23 := below_later (below_box w2 (Obj.cells #[.int .i64 T', .slice a2 L'.length c2] 25)) hb3
    have S3 : Hid (VSt w T T' (.slice a1 L.length c1) (.slice a2 L'.length c2) (.slice a3 L'.length c3) L L' w1.heap.size w2.heap.size w3.heap.size (w3.alloc (Obj.cells #[.int .i64 T', .slice a3 L'.length c3] 25))) := by
      show VSt _ _ _ _ _ _ _ _ _ _ _ _
      have hb := below_box w3 (Obj.cells #[.int .i64 T', .slice a3 L'.length c3] 25)
      exact ⟨below_later (below_later Z2.out hb23) hb, (D2.out.later hb23).later hb, ((WBox.new w2 T' (.slice a2 L'.length c2) 25).later hb3).later hb, WBox.new _ _ _ _, (I2.out.later hb23).later hb, (G2.out.later hb23).later hb, (owns_il o3).later hb⟩
    have D3 := D2.out.later hb23; have X3 := (WBox.new w2 T' (.slice a2 L'.length c2) 25).later hb3
    obtain ⟨l0, k0, k1⟩ := D3
    obtain ⟨l2, k2, k3⟩ := X3
    clear hb3 hb23 o3 res3 Z2 D2 I2 G2
    obtain ⟨ok, HOK⟩ : ∃ ok : Bool, Hid (ok = true ↔ WOk T L.length (gE L)) := by
      by_cases hw : WOk T L.length (gE L)
      · exact ⟨true, by show _ ↔ _; simp [hw]⟩
      · exact ⟨false, by show _ ↔ _; simp [hw]⟩
    go_wp2_with fail
    clear l0 k0 k1 l2 k2 k3
    generalize w3.alloc (Obj.cells #[.int .i64 T', .slice a3 L'.length c3] 25) = X3 at *
    obtain ⟨l0, k0, k1⟩ := S3.out.d
    obtain ⟨l2, k2, k3⟩ := S3.out.g
    obtain ⟨l4, k4, k5⟩ := S3.out.s
    cases ok
    · go_region_held3 (fun w' => w'.cell? ⟨w1.heap.size, 0, none⟩ = some (.int .i64 T) ∧ w'.cell? ⟨w1.heap.size, 1, none⟩ = some (.slice a1 L.length c1) ∧ w'.cell? ⟨w2.heap.size, 0, none⟩ = some (.int .i64 T') ∧ w'.cell? ⟨w2.heap.size, 1, none⟩ = some (.slice a2 L'.length c2) ∧ w'.cell? ⟨w3.heap.size, 0, none⟩ = some (.int .i64 T') ∧ w'.cell? ⟨w3.heap.size, 1, none⟩ = some (.slice a3 L'.length c3)) (go_keep) (first | (go_at_call 8; refine (ovWindow_same T' _ _ L' _ S3.out.drew.ig S3.out.drew.is (by omega)).mono ?_; rintro e w4 ⟨rfl, hb4⟩; have S4 := hid_in (S3.out.drew.later hb4); have u0 := S4.out.d.c0; have u1 := S4.out.d.c1; have u2 := S4.out.g.c0; have u3 := S4.out.g.c1; have u4 := S4.out.s.c0; have u5 := S4.out.s.c1; clear hb4) | (go_at_call 9; refine (windowOkI3 T _ L _ S4.out.il (by omega) _ HOK.out).mono ?_; rintro e w5 ⟨rfl, hb5⟩; have S5 := hid_in (S4.out.later hb5); have u0 := S5.out.d.c0; have u1 := S5.out.d.c1; have u2 := S5.out.g.c0; have u3 := S5.out.g.c1; have u4 := S5.out.s.c0; have u5 := S5.out.s.c1; clear hb5) | (go_at_call 10; refine (windowOkS3 T _ L _ S6.out.il (by omega) _ HOK.out).mono ?_; rintro e w7 ⟨rfl, hb7⟩; have S7 := hid_in (S6.out.later hb7); have u0 := S7.out.d.c0; have u1 := S7.out.d.c1; have u2 := S7.out.g.c0; have u3 := S7.out.g.c1; have u4 := S7.out.s.c0; have u5 := S7.out.s.c1; clear hb7) | (go_at_call 10; refine (windowOkS3 T _ L _ S5.out.il (by omega) _ HOK.out).mono ?_; rintro e w6 ⟨rfl, hb6⟩; have S6 := hid_in (S5.out.later hb6); have u0 := S6.out.d.c0; have u1 := S6.out.d.c1; have u2 := S6.out.g.c0; have u3 := S6.out.g.c1; have u4 := S6.out.s.c0; have u5 := S6.out.s.c1; clear hb6))
      all_goals
        clear l0 k0 k1 l2 k2 k3 l4 k4 k5 u0 u1 u2 u3 u4 u5
        obtain ⟨l0, k0, k1⟩ := S7.out.d
        obtain ⟨l2, k2, k3⟩ := S7.out.g
        obtain ⟨l4, k4, k5⟩ := S7.out.s
        go_wp2_with fail
        go_region_held3 (fun w' => w'.cell? ⟨w1.heap.size, 0, none⟩ = some (.int .i64 T) ∧ w'.cell? ⟨w1.heap.size, 1, none⟩ = some (.slice a1 L.length c1) ∧ w'.cell? ⟨w2.heap.size, 0, none⟩ = some (.int .i64 T') ∧ w'.cell? ⟨w2.heap.size, 1, none⟩ = some (.slice a2 L'.length c2) ∧ w'.cell? ⟨w3.heap.size, 0, none⟩ = some (.int .i64 T') ∧ w'.cell? ⟨w3.heap.size, 1, none⟩ = some (.slice a3 L'.length c3)) (go_keep) (first | (go_at_call 8; refine (ovWindow_same T' _ _ L' _ S7.out.drew.ig S7.out.drew.is (by omega)).mono ?_; rintro e w8 ⟨rfl, hb8⟩; have S8 := hid_in (S7.out.drew.later hb8); have u0 := S8.out.d.c0; have u1 := S8.out.d.c1; have u2 := S8.out.g.c0; have u3 := S8.out.g.c1; have u4 := S8.out.s.c0; have u5 := S8.out.s.c1; clear hb8) | (go_at_call 9; refine (windowOkI3 T _ L _ S8.out.il (by omega) _ HOK.out).mono ?_; rintro e w9 ⟨rfl, hb9⟩; have S9 := hid_in (S8.out.later hb9); have u0 := S9.out.d.c0; have u1 := S9.out.d.c1; have u2 := S9.out.g.c0; have u3 := S9.out.g.c1; have u4 := S9.out.s.c0; have u5 := S9.out.s.c1; clear hb9) | (go_at_call 10; refine (windowOkS3 T _ L _ S9.out.il (by omega) _ HOK.out).mono ?_; rintro e w10 ⟨rfl, hb10⟩; have S10 := hid_in (S9.out.later hb10); have u0 := S10.out.d.c0; have u1 := S10.out.d.c1; have u2 := S10.out.g.c0; have u3 := S10.out.g.c1; have u4 := S10.out.s.c0; have u5 := S10.out.s.c1; clear hb10))
        all_goals
          go_wp2_with fail
          go_ret
          exact ⟨rfl, S10.out.z⟩
    · have HOK1 : Hid (WOk T L.length (gE L)) := HOK.out.1 rfl
      go_region_held3 (fun w' => w'.cell? ⟨w1.heap.size, 0, none⟩ = some (.int .i64 T) ∧ w'.cell? ⟨w1.heap.size, 1, none⟩ = some (.slice a1 L.length c1) ∧ w'.cell? ⟨w2.heap.size, 0, none⟩ = some (.int .i64 T') ∧ w'.cell? ⟨w2.heap.size, 1, none⟩ = some (.slice a2 L'.length c2) ∧ w'.cell? ⟨w3.heap.size, 0, none⟩ = some (.int .i64 T') ∧ w'.cell? ⟨w3.heap.size, 1, none⟩ = some (.slice a3 L'.length c3)) (go_keep) (first | (go_at_call 8; refine (ovWindow_same T' _ _ L' _ S3.out.drew.ig S3.out.drew.is (by omega)).mono ?_; rintro e w4 ⟨rfl, hb4⟩; have S4 := hid_in (S3.out.drew.later hb4); have u0 := S4.out.d.c0; have u1 := S4.out.d.c1; have u2 := S4.out.g.c0; have u3 := S4.out.g.c1; have u4 := S4.out.s.c0; have u5 := S4.out.s.c1; clear hb4) | (go_at_call 9; refine (windowOkI3 T _ L _ S4.out.il (by omega) true (iff_of_true rfl HOK1.out)).mono ?_; rintro e w5 ⟨rfl, hb5⟩; have S5 := hid_in (S4.out.later hb5); have u0 := S5.out.d.c0; have u1 := S5.out.d.c1; have u2 := S5.out.g.c0; have u3 := S5.out.g.c1; have u4 := S5.out.s.c0; have u5 := S5.out.s.c1; clear hb5) | (go_at_call 10; refine (windowOkS3 T _ L _ S6.out.il (by omega) true (iff_of_true rfl HOK1.out)).mono ?_; rintro e w7 ⟨rfl, hb7⟩; have S7 := hid_in (S6.out.later hb7); have u0 := S7.out.d.c0; have u1 := S7.out.d.c1; have u2 := S7.out.g.c0; have u3 := S7.out.g.c1; have u4 := S7.out.s.c0; have u5 := S7.out.s.c1; clear hb7) | (go_at_call 10; refine (windowOkS3 T _ L _ S5.out.il (by omega) true (iff_of_true rfl HOK1.out)).mono ?_; rintro e w6 ⟨rfl, hb6⟩; have S6 := hid_in (S5.out.later hb6); have u0 := S6.out.d.c0; have u1 := S6.out.d.c1; have u2 := S6.out.g.c0; have u3 := S6.out.g.c1; have u4 := S6.out.s.c0; have u5 := S6.out.s.c1; clear hb6))
      all_goals
        clear l0 k0 k1 l2 k2 k3 l4 k4 k5 u0 u1 u2 u3 u4 u5
        obtain ⟨l0, k0, k1⟩ := S7.out.d
        obtain ⟨l2, k2, k3⟩ := S7.out.g
        obtain ⟨l4, k4, k5⟩ := S7.out.s
        have hwok := HOK1.out
        obtain ⟨rc, hrc⟩ := wok_rep hwok
        rw [LE_gE] at hrc
        have t0 := hrc.t0; have t1 := hrc.t1
        have HRC := hid_in hrc
        have RR : Hid (T' = topL T L n ∧ L' = listL T L n ∧ k' = codeL T L n) := by
          show _ ∧ _
          rcases RES.out with ⟨h, _⟩ | ⟨_, h⟩
          · exact absurd hwok h
          · exact h
        clear hrc hwok
        go_wp2_with fail
        go_loopw [9, 10] (fun vb vi wr => ∃ (k : Nat) (b : Bool), k ≤ L.length ∧ vi = .int .i64 (k : Int) ∧ vb = .bool b ∧ wr = w7 ∧ Hid (b = true ↔ ∃ j, j < k ∧ L.getD j 0 = n)) (fun _ vi _ => L.length - (intOf vi).toNat)
        case atStart => exact ⟨0, false, Nat.zero_le _, rfl, rfl, rfl, by show _ ↔ _; exact Iff.intro (fun h => nomatch h) (fun h => by obtain ⟨j, hj, _⟩ := h; omega)⟩
        case round =>
          obtain ⟨k, b, hk, rfl, rfl, rfl, HI⟩ := hrel
          by_cases hlt : k < L.length
          · have hdl : decide ((k : Int) < (L.length : Int)) = true := by simp; omega
            have hdl2 : (k : Int) < (L.length : Int) := by omega
            obtain ⟨_, _, hform, _, hcells⟩ := S7.out.il
            obtain ⟨bb, off, ea, hbb, hcc⟩ := hcells.resolve_left (fun h => by have := h.2; omega)
            simp only [Value.slice.injEq] at hform
            obtain ⟨ef, _, _⟩ := hform
            rw [ea] at ef
            subst ef
            have g0 := hcc k hlt
            generalize hy : L.getD k 0 = y at g0
            have HY := hid_in hy
            clear hy hcc ea
            have step : Hid (∀ b' : Bool, (b' = true ↔ (b = true ∨ y = n)) → Hid (b' = true ↔ ∃ j, j < k + 1 ∧ L.getD j 0 = n)) := by
              show ∀ b' : Bool, _
              intro b' hb'
              show _ ↔ _
              rw [hb', HI.out]
              constructor
              · rintro (⟨j, a1, a2⟩ | a2)
                · exact ⟨j, by omega, a2⟩
                · exact ⟨k, by omega, by rw [HY.out]; exact a2⟩
              · rintro ⟨j, a1, a2⟩
                by_cases hj : j < k
                · exact .inl ⟨j, hj, a2⟩
                · obtain rfl : j = k := by omega
                  exact .inr (by rw [← HY.out]; exact a2)
            cases b
            · by_cases he : y = n
              · have he' : (y == n) = true := by simpa using he
                have HE := hid_in he
                clear he
                go_wp2_with fail
                exact ⟨⟨k + 1, true, by omega, by simp, by simp, trivial, step.out true (by simp [HE.out])⟩, by simp [intOf]; omega⟩
              · have he' : (y == n) = false := by simpa using he
                have HE := hid_in he
                clear he
                go_wp2_with fail
                exact ⟨⟨k + 1, false, by omega, by simp, by simp, trivial, step.out false (by simp [HE.out])⟩, by simp [intOf]; omega⟩
            · go_wp2_with fail
              exact ⟨⟨k + 1, true, by omega, by simp, by simp, trivial, step.out true (by simp)⟩, by simp [intOf]; omega⟩
          · have hdl : decide ((k : Int) < (L.length : Int)) = false := by simp; omega
            have hkl : k = L.length := by omega
            have HB : Hid (b = true ↔ n ∈ L) := by
              show _ ↔ _
              rw [HI.out, hkl, mem_get]
            clear hkl
            by_cases hk0 : k' = 0
            · have hc0 : codeL T L n = 0 := by rw [← RR.out.2.2]; exact hk0
              obtain ⟨n1, n2, n3, n4⟩ := code0_iff.1 hc0
              have hbf : b = false := by
                cases b
                · rfl
                · exact absurd (HB.out.1 rfl) n4
              subst hk0 hbf
              have hTT : T ≤ T' := by rw [RR.out.1]; exact topL_ge _ _ _
              have WX : Hid (WOk T' L'.length (gE L')) := by
                show WOk _ _ _
                rw [RR.out.1, RR.out.2.1]; exact see_wok HOK1.out
              have AG : Hid (codeL T' L' n = 3) := by
                show _ = _
                rw [RR.out.1, RR.out.2.1]; exact see_again hc0
              clear hc0 n4
              go_wp2_with fail
              clear l0 k0 k1 l2 k2 k3 l4 k4 k5
              obtain ⟨l0, k0, k1⟩ := S7.out.d
              obtain ⟨l2, k2, k3⟩ := S7.out.g
              refine (windowSeeI T' n _ L' _ S7.out.ig (by omega)).mono ?_
              rintro e w9 ⟨T9, L9, k9, v9, rfl, o9, hb9, res9⟩
              obtain ⟨a9, c9, rfl⟩ := owns_form o9
              have S9 := hid_in (S7.out.later hb9)
              have hk9 : k9 = 3 := by
                rcases res9 with ⟨h, _⟩ | ⟨_, _, _, h⟩
                · exact absurd WX.out h
                · rw [h]; exact AG.out
              subst hk9
              clear hb9 o9 res9 l0 k0 k1 l2 k2 k3
              obtain ⟨l0, k0, k1⟩ := S9.out.d
              obtain ⟨l2, k2, k3⟩ := S9.out.g
              go_wp2_with fail
              have S10 := hid_in (S9.out.later (below_box _ (Obj.cells #[.int .i64 T9, .slice a9 L9.length c9] 25)))
              refine (windowOkI3 T' _ L' _ S10.out.ig (by omega) true (iff_of_true rfl WX.out)).mono ?_
              rintro e w11 ⟨rfl, hb11⟩
              have S11 := hid_in (S10.out.later hb11)
              clear hb11 l0 k0 k1 l2 k2 k3
              obtain ⟨l0, k0, k1⟩ := S11.out.d
              obtain ⟨l2, k2, k3⟩ := S11.out.g
              go_wp2_with fail
              go_ret
              exact ⟨rfl, S11.out.z⟩
            · have hk0' : (k' == 0) = false := by simpa using hk0
              have hc0 : codeL T L n ≠ 0 := by rw [← RR.out.2.2]; exact hk0
              obtain ⟨e1, e2⟩ := not0 hc0
              have e3 : T' = T := RR.out.1.trans e1
              have e4 : L' = L := RR.out.2.1.trans e2
              have WX : Hid (WOk T L.length (gE L)) := HOK1
              have hno : ¬ (1 ≤ n ∧ n ≤ 1000000 ∧ T - 16 < n ∧ n ∉ L) := fun h => hc0 (code0_iff.2 h)
              have HNO := hid_in hno
              clear hno hc0 e1 e2 RR RES
              subst e3 e4
              by_cases n1 : 1 ≤ n
              · by_cases n2 : n ≤ 1000000
                · by_cases n3 : T' - 16 < n
                  · have hbt : b = true := by
                      cases b
                      · exact absurd ⟨n1, n2, n3, fun h => by have := HB.out.2 h; simp at this⟩ HNO.out
                      · rfl
                    subst hbt
                    go_wp2_with fail
                    refine (ovWindow_same T' _ _ L' _ S7.out.ig S7.out.il (by omega)).mono ?_
                    rintro e w8 ⟨rfl, hb8⟩
                    have S8 := hid_in (S7.out.later hb8)
                    clear hb8 l0 k0 k1 l2 k2 k3 l4 k4 k5
                    obtain ⟨l0, k0, k1⟩ := S8.out.d
                    obtain ⟨l2, k2, k3⟩ := S8.out.g
                    obtain ⟨l4, k4, k5⟩ := S8.out.s
                    go_wp2_with fail
                    clear l0 k0 k1 l2 k2 k3 l4 k4 k5
                    obtain ⟨l0, k0, k1⟩ := S8.out.d
                    obtain ⟨l2, k2, k3⟩ := S8.out.g
                    refine (windowSeeI T' n _ L' _ S8.out.ig (by omega)).mono ?_
                    rintro e w9 ⟨T9, L9, k9, v9, rfl, o9, hb9, res9⟩
                    obtain ⟨a9, c9, rfl⟩ := owns_form o9
                    have S9 := hid_in (S8.out.later hb9)
                    clear hb9 o9 res9 l0 k0 k1 l2 k2 k3
                    obtain ⟨l0, k0, k1⟩ := S9.out.d
                    obtain ⟨l2, k2, k3⟩ := S9.out.g
                    go_wp2_with fail
                    have S10 := hid_in (S9.out.later (below_box _ (Obj.cells #[.int .i64 T9, .slice a9 L9.length c9] 25)))
                    refine (windowOkI3 T' _ L' _ S10.out.ig (by omega) true (iff_of_true rfl WX.out)).mono ?_
                    rintro e w11 ⟨rfl, hb11⟩
                    have S11 := hid_in (S10.out.later hb11)
                    clear hb11 l0 k0 k1 l2 k2 k3
                    obtain ⟨l0, k0, k1⟩ := S11.out.d
                    obtain ⟨l2, k2, k3⟩ := S11.out.g
                    go_wp2_with fail
                    go_ret
                    exact ⟨rfl, S11.out.z⟩
                  · have n3' : decide (T' - 16 < n) = false := by simp; omega
                    go_wp2_with fail
                    refine (ovWindow_same T' _ _ L' _ S7.out.ig S7.out.il (by omega)).mono ?_
                    rintro e w8 ⟨rfl, hb8⟩
                    have S8 := hid_in (S7.out.later hb8)
                    clear hb8 l0 k0 k1 l2 k2 k3 l4 k4 k5
                    obtain ⟨l0, k0, k1⟩ := S8.out.d
                    obtain ⟨l2, k2, k3⟩ := S8.out.g
                    obtain ⟨l4, k4, k5⟩ := S8.out.s
                    go_wp2_with fail
                    clear l0 k0 k1 l2 k2 k3 l4 k4 k5
                    obtain ⟨l0, k0, k1⟩ := S8.out.d
                    obtain ⟨l2, k2, k3⟩ := S8.out.g
                    refine (windowSeeI T' n _ L' _ S8.out.ig (by omega)).mono ?_
                    rintro e w9 ⟨T9, L9, k9, v9, rfl, o9, hb9, res9⟩
                    obtain ⟨a9, c9, rfl⟩ := owns_form o9
                    have S9 := hid_in (S8.out.later hb9)
                    clear hb9 o9 res9 l0 k0 k1 l2 k2 k3
                    obtain ⟨l0, k0, k1⟩ := S9.out.d
                    obtain ⟨l2, k2, k3⟩ := S9.out.g
                    go_wp2_with fail
                    have S10 := hid_in (S9.out.later (below_box _ (Obj.cells #[.int .i64 T9, .slice a9 L9.length c9] 25)))
                    refine (windowOkI3 T' _ L' _ S10.out.ig (by omega) true (iff_of_true rfl WX.out)).mono ?_
                    rintro e w11 ⟨rfl, hb11⟩
                    have S11 := hid_in (S10.out.later hb11)
                    clear hb11 l0 k0 k1 l2 k2 k3
                    obtain ⟨l0, k0, k1⟩ := S11.out.d
                    obtain ⟨l2, k2, k3⟩ := S11.out.g
                    go_wp2_with fail
                    go_ret
                    exact ⟨rfl, S11.out.z⟩
                · have n2' : decide (n ≤ 1000000) = false := by simp; omega
                  go_wp2_with fail
                  refine (ovWindow_same T' _ _ L' _ S7.out.ig S7.out.il (by omega)).mono ?_
                  rintro e w8 ⟨rfl, hb8⟩
                  have S8 := hid_in (S7.out.later hb8)
                  clear hb8 l0 k0 k1 l2 k2 k3 l4 k4 k5
                  obtain ⟨l0, k0, k1⟩ := S8.out.d
                  obtain ⟨l2, k2, k3⟩ := S8.out.g
                  obtain ⟨l4, k4, k5⟩ := S8.out.s
                  go_wp2_with fail
                  clear l0 k0 k1 l2 k2 k3 l4 k4 k5
                  obtain ⟨l0, k0, k1⟩ := S8.out.d
                  obtain ⟨l2, k2, k3⟩ := S8.out.g
                  refine (windowSeeI T' n _ L' _ S8.out.ig (by omega)).mono ?_
                  rintro e w9 ⟨T9, L9, k9, v9, rfl, o9, hb9, res9⟩
                  obtain ⟨a9, c9, rfl⟩ := owns_form o9
                  have S9 := hid_in (S8.out.later hb9)
                  clear hb9 o9 res9 l0 k0 k1 l2 k2 k3
                  obtain ⟨l0, k0, k1⟩ := S9.out.d
                  obtain ⟨l2, k2, k3⟩ := S9.out.g
                  go_wp2_with fail
                  have S10 := hid_in (S9.out.later (below_box _ (Obj.cells #[.int .i64 T9, .slice a9 L9.length c9] 25)))
                  refine (windowOkI3 T' _ L' _ S10.out.ig (by omega) true (iff_of_true rfl WX.out)).mono ?_
                  rintro e w11 ⟨rfl, hb11⟩
                  have S11 := hid_in (S10.out.later hb11)
                  clear hb11 l0 k0 k1 l2 k2 k3
                  obtain ⟨l0, k0, k1⟩ := S11.out.d
                  obtain ⟨l2, k2, k3⟩ := S11.out.g
                  go_wp2_with fail
                  go_ret
                  exact ⟨rfl, S11.out.z⟩
              · have n1' : decide (1 ≤ n) = false := by simp; omega
                go_wp2_with fail
                refine (ovWindow_same T' _ _ L' _ S7.out.ig S7.out.il (by omega)).mono ?_
                rintro e w8 ⟨rfl, hb8⟩
                have S8 := hid_in (S7.out.later hb8)
                clear hb8 l0 k0 k1 l2 k2 k3 l4 k4 k5
                obtain ⟨l0, k0, k1⟩ := S8.out.d
                obtain ⟨l2, k2, k3⟩ := S8.out.g
                obtain ⟨l4, k4, k5⟩ := S8.out.s
                go_wp2_with fail
                clear l0 k0 k1 l2 k2 k3 l4 k4 k5
                obtain ⟨l0, k0, k1⟩ := S8.out.d
                obtain ⟨l2, k2, k3⟩ := S8.out.g
                refine (windowSeeI T' n _ L' _ S8.out.ig (by omega)).mono ?_
                rintro e w9 ⟨T9, L9, k9, v9, rfl, o9, hb9, res9⟩
                obtain ⟨a9, c9, rfl⟩ := owns_form o9
                have S9 := hid_in (S8.out.later hb9)
                clear hb9 o9 res9 l0 k0 k1 l2 k2 k3
                obtain ⟨l0, k0, k1⟩ := S9.out.d
                obtain ⟨l2, k2, k3⟩ := S9.out.g
                go_wp2_with fail
                have S10 := hid_in (S9.out.later (below_box _ (Obj.cells #[.int .i64 T9, .slice a9 L9.length c9] 25)))
                refine (windowOkI3 T' _ L' _ S10.out.ig (by omega) true (iff_of_true rfl WX.out)).mono ?_
                rintro e w11 ⟨rfl, hb11⟩
                have S11 := hid_in (S10.out.later hb11)
                clear hb11 l0 k0 k1 l2 k2 k3
                obtain ⟨l0, k0, k1⟩ := S11.out.d
                obtain ⟨l2, k2, k3⟩ := S11.out.g
                go_wp2_with fail
                go_ret
                exact ⟨rfl, S11.out.z⟩
  · have hd : decide ((1048576 : Int) < (len : Int)) = true := by simp; omega
    go_enter Try.func3, Try.ntmps3
    go_wp2_with fail
    go_ret
    exact ⟨rfl, Below.refl _ _⟩
end Go.Proofs.Ytmkmbbbmelejoaa
