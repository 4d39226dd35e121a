/- Rules as lines, in the program: the walk. The conditions stand at each theorem. -/
import Derived.Test.YtbimfhlmcdpnmaaDoorPutI
namespace Go.Proofs.YtbimfhlmcdpnmaaDoor
open Go.RowKit Go.LatT Go.BlockM Go.OpnT
set_option linter.unusedVariables false
set_option linter.unusedSimpArgs false
/-- What lies where while a text is built of lines. -/
structure TBS (w W : World) (l : List UInt8) : Prop where
  bel : Below w.heap.size w W
  bd : Bd W w.heap.size w.heap.size (Lib.byteCells l)
theorem TBS.new (w : World) : TBS w (w.alloc (.cells #[.pointer none, .slice none 0 0] 47)) [] := ⟨below_box _ _, Bd.fresh w⟩
theorem TBS.later {w W W' : World} {l : List UInt8} (h : TBS w W l) (hb : Below W.heap.size W W') : TBS w W' l := ⟨below_later h.bel hb, h.bd.later hb⟩
set_option maxHeartbeats 600000 in
set_option maxRecDepth 100000 in
theorem join4 (A B C D : List UInt8) (w : World) (hA : A.length ≤ 10000) (hB : B.length ≤ 10000) (hC : C.length ≤ 10000) (hD : D.length ≤ 10000) :
    Calls Tryd.prog 22 #[.slice (some ⟨w.heap.size, 0, none⟩) 4 4, .string ⟨#[32]⟩] (w.alloc (.cells #[.string ⟨A.toArray⟩, .string ⟨B.toArray⟩, .string ⟨C.toArray⟩, .string ⟨D.toArray⟩] 9)) fun e w' => e = .returned (.string ⟨(A ++ [32] ++ B ++ [32] ++ C ++ [32] ++ D).toArray⟩) ∧ Below w.heap.size w w' := by
  have ej : Lib.join (([⟨A.toArray⟩, ⟨B.toArray⟩, ⟨C.toArray⟩, ⟨D.toArray⟩] : List ByteArray).map (·.data.toList)) [32] = A ++ [32] ++ B ++ [32] ++ C ++ [32] ++ D := by simp [Lib.join, List.intercalate]
  have hj := Tryd.strings_Join w.heap.size 0 4 [⟨A.toArray⟩, ⟨B.toArray⟩, ⟨C.toArray⟩, ⟨D.toArray⟩] ⟨#[32]⟩ (w.alloc (.cells #[.string ⟨A.toArray⟩, .string ⟨B.toArray⟩, .string ⟨C.toArray⟩, .string ⟨D.toArray⟩] 9)) (by
      intro j x hx
      rcases j with _ | _ | _ | _ | j
      · simp at hx; subst hx; go_simp
      · simp at hx; subst hx; go_simp
      · simp at hx; subst hx; go_simp
      · simp at hx; subst hx; go_simp
      · simp at hx) (by simp) (by simp) (by simp) (by
      show (Lib.join _ [32]).length ≤ _
      rw [ej]
      simp
      omega)
  change Calls Tryd.prog 22 #[.slice (some ⟨w.heap.size, 0, none⟩) 4 4, .string ⟨#[32]⟩] _ (fun e w' => e = .returned (.string ⟨(Lib.join _ [32]).toArray⟩) ∧ _) at hj
  rw [ej] at hj
  refine hj.mono ?_
  rintro e w5 ⟨rfl, hb5⟩
  exact ⟨rfl, below_later (below_box _ _) hb5⟩
theorem guardWord' (t : Int) (v : List UInt8) (w : World) (t0 : 0 ≤ t) (t1 : t ≤ 3) (hp : Pow w) (hv : [103, 117, 97, 114, 100] ++ decI t = v) : Calls Tryd.prog 42 #[.int .i64 t] w fun e w' => e = .returned (.string ⟨v.toArray⟩) ∧ Below w.heap.size w w' := by
  subst hv
  exact guardWord t w t0 t1 hp
set_option maxHeartbeats 800000 in
set_option maxRecDepth 100000 in
theorem rulesPutI_some (bb off len cap : Nat) (E : Nat → Nat → Int) (w : World) (hlt : bb < w.heap.size) (hc : ∀ i, i < len → ∀ j, j < 8 → w.cell? ⟨bb, off + i * 8 + j, none⟩ = some (.int .i64 (E i j))) (hl : len ≤ 1048576) (hp : Pow w) :
    Calls Tryd.prog 8 #[.slice (some ⟨bb, off, none⟩) len cap] w fun e w' => ∃ v, AllOk (rbad E) len 8 v ∧ e = .returned (.string ⟨(if v then putT E len else []).toArray⟩) ∧ Below w.heap.size w w' := by
  have HT := hid_in (show Tab w (some ⟨bb, off, none⟩) len 8 E from .inr ⟨bb, off, rfl, hlt, hc⟩)
  have HC := hid_in hc; have HP := hid_in hp
  clear hc hp
  go_enter Tryd.func8, Tryd.ntmps8
  go_wp2_with fail
  refine (rulesOkI _ len cap E _ HT.out hl).mono ?_
  rintro e w1 ⟨v, rfl, V, hb1⟩
  have V1 := hid_in V; have HB1 := hid_in hb1
  clear V hb1
  cases v
  · go_wp2_with fail
    go_ret
    exact ⟨false, V1.out, rfl, HB1.out⟩
  · go_wp2_with fail
    refine (doings2_any _).mono ?_
    rintro e w2 ⟨B, p0, p1, rfl, hD, hb2⟩
    have HB2 := hid_in (below_later HB1.out hb2); have HD := hid_in hD
    have ltW : bb < w2.heap.size := by have := HB2.out.size; omega
    have hl8 : len ≤ 8 := (V1.out.1 rfl).2
    have HO := hid_in (V1.out.1 rfl).1
    have HP2 := hid_in (HP.out.later HB2.out)
    have HC2 : Hid (∀ i, i < len → ∀ j, j < 8 → w2.cell? ⟨bb, off + i * 8 + j, none⟩ = some (.int .i64 (E i j))) := by
      show ∀ i, i < len → ∀ j, j < 8 → _ = _
      exact fun i hi j hj => ((bcell HB2.out).1 bb (off + i * 8 + j) hlt).trans (HC.out i hi j hj)
    clear hD hb2 HC HP HB1 HT hlt
    have T0 := hid_in (TBS.new w2)
    go_wp2_with fail
    generalize (w2.alloc (.cells #[.pointer none, .slice none 0 0] 47)) = W0 at *
    go_loopw [15] (fun v wr => ∃ k : Nat, k ≤ len ∧ v = .int .i64 (k : Int) ∧ Hid (TBS w2 wr (putT E k))) (fun v _ => len - (intOf v).toNat)
    case atStart => exact ⟨0, Nat.zero_le _, rfl, T0⟩
    case round =>
      obtain ⟨k, hk, rfl, HW⟩ := hrel
      by_cases hlt' : k < len
      · have hd : (k : Int) < (len : Int) := by omega
        have hg := fun j hj => ((bcell HW.out.bel).1 bb (off + k * 8 + j) ltW).trans (HC2.out k hlt' j hj)
        have N := row_num (HO.out k hlt')
        have EL := hid_in (show putT E (k + 1) = putT E k ++ lineT (E k 0) (E k 1) (E k 2) (E k 3) (E k 4) (E k 5) (E k 6) (E k 7) from rfl)
        have LP := putT_len HO.out k hk
        have g0 : wr.cell? ⟨bb, off + k * 8, none⟩ = _ := hg 0 (by omega)
        have g1 := hg 1 (by omega); have g2 := hg 2 (by omega); have g3 := hg 3 (by omega); have g4 := hg 4 (by omega); have g5 := hg 5 (by omega); have g6 := hg 6 (by omega); have g7 := hg 7 (by omega)
        clear hg
        generalize E k 0 = o at N EL g0
        generalize E k 1 = t at N EL g1
        generalize E k 2 = a at N EL g2
        generalize E k 3 = b at N EL g3
        generalize E k 4 = c at N EL g4
        generalize E k 5 = d at N EL g5
        generalize E k 6 = l at N EL g6
        generalize E k 7 = h at N EL g7
        generalize putT E k = P at EL LP HW
        have NN := hid_in N
        have lw := wordT_len N.deed
        have lb := blockT_len N.a0 N.a1 N.b0 N.b1
        have lc := blockT_len N.c0 N.c1 N.d0 N.d1
        have ll := decI_len100 N.l0 (by have := N.l1; omega)
        have lh := decI_len100 N.h0 (by have := N.h1; omega)
        have lP : P.length ≤ 40000 := by omega
        clear LP N
        have PW := hid_in (HP2.out.later HW.out.bel)
        have DW := hid_in (HD.out.later HW.out.bel)
        have bx := hid_in (below_box wr (.cells #[.int .i64 o, .int .i64 t, .int .i64 a, .int .i64 b, .int .i64 c, .int .i64 d, .int .i64 l, .int .i64 h] 37))
        go_wp2_with fail
        refine wp_region_lat (Below.refl _ _) (by kernel_rfl) (by kernel_rfl) ?_
        intro hne hcl
        repeat (go_big_quiet_step (first | (go_at_call_of 19 (Value.int .i64 l); exact lat_of (itoa_any l _ NN.out.l0 (by have := NN.out.l1; omega) ((PW.out.later bx.out).later (Lat.h _)))) | (go_at_call_of 19 (Value.int .i64 h); exact lat_of (itoa_any h _ NN.out.h0 (by have := NN.out.h1; omega) ((PW.out.later bx.out).later (Lat.h _))))))
        refine wpQuiet_nil ?_
        intro w1 hb1
        obtain ⟨hc1, hf1⟩ := bcell hb1
        clear hne hcl
        have B1 := hid_in hb1
        have s1 : wr.heap.size < w1.heap.size := by have := hb1.size; simp at this; omega
        have q0 : w1.cell? ⟨wr.heap.size, 0, none⟩ = some (.int .i64 o) := by rw [hc1 _ _ (by simp)]; go_simp
        have q1 : w1.cell? ⟨wr.heap.size, 1, none⟩ = some (.int .i64 t) := by rw [hc1 _ _ (by simp)]; go_simp
        have q2 : w1.cell? ⟨wr.heap.size, 2, none⟩ = some (.int .i64 a) := by rw [hc1 _ _ (by simp)]; go_simp
        have q3 : w1.cell? ⟨wr.heap.size, 3, none⟩ = some (.int .i64 b) := by rw [hc1 _ _ (by simp)]; go_simp
        have q4 : w1.cell? ⟨wr.heap.size, 4, none⟩ = some (.int .i64 c) := by rw [hc1 _ _ (by simp)]; go_simp
        have q5 : w1.cell? ⟨wr.heap.size, 5, none⟩ = some (.int .i64 d) := by rw [hc1 _ _ (by simp)]; go_simp
        have D1 := hid_in ((DW.out.later bx.out).later hb1)
        have P1 := hid_in ((PW.out.later bx.out).later hb1)
        have T1 := hid_in ((HW.out.later bx.out).later hb1)
        clear hc1 hf1 hb1 HW DW PW bx B1 g0 g1 g2 g3 g4 g5 g6 g7
        have ho : o = 0 ∨ o = 1 ∨ (o = 2 ∧ 0 ≤ t ∧ t ≤ 3) := by
          have hd := NN.out.deed
          by_cases h2 : o = 2
          · refine .inr (.inr ⟨h2, ?_⟩)
            simpa [deedB, h2, inB] using hd
          · simp [deedB, h2] at hd
            omega
        obtain ⟨BA, hBA⟩ : ∃ v, blockT a b = v := ⟨_, rfl⟩
        obtain ⟨BC, hBC⟩ : ∃ v, blockT c d = v := ⟨_, rfl⟩
        have e1 : Hid ((if okB a b then blockT a b else []) = BA) := by show _ = _; rw [if_pos NN.out.ab, hBA]
        have e2 : Hid ((if okB c d then blockT c d else []) = BC) := by show _ = _; rw [if_pos NN.out.cd, hBC]
        have lt1 := D1.out.lt; have lt2 := D1.out.lt0; have lt3 := D1.out.lt1
        have z1 := D1.out.c1; have z3 := D1.out.c3; have z5 := D1.out.c5; have y0 := D1.out.x0; have y1 := D1.out.x1
        have er : (⟨(decI l).toArray⟩ ++ ⟨#[45]⟩ ++ ⟨(decI h).toArray⟩ : ByteArray) = ⟨(decI l ++ [45] ++ decI h).toArray⟩ := by simp [bytes_append]
        have lR : (decI l ++ [45] ++ decI h).length ≤ 300 := by simp; omega
        go_wp2_with fail
        rw [er]
        clear er
        have EW := hid_in (show wordT o t = wordT o t from rfl)
        have EL2 : Hid (putT E (k + 1) = P ++ (wordT o t ++ [32] ++ blockT a b ++ [32] ++ blockT c d ++ [32] ++ (decI l ++ [45] ++ decI h) ++ [10])) := by show _ = _; rw [EL.out, lineT]
        clear EL
        generalize decI l ++ [45] ++ decI h = R at EL2 lR
        have EX : Hid (∃ Wd, wordT o t = Wd) := by show _; exact ⟨_, rfl⟩
        obtain ⟨Wd, hWd⟩ := EX.out
        rw [hWd] at lw
        have HWd := hid_in hWd
        have EL3 : Hid (putT E (k + 1) = P ++ (Wd ++ [32] ++ BA ++ [32] ++ BC ++ [32] ++ R ++ [10])) := by show _ = _; rw [EL2.out, hWd, hBA, hBC]
        rw [hBA] at lb
        rw [hBC] at lc
        clear hWd EX EW EL2 hBA hBC
        rcases ho with rfl | rfl | ⟨rfl, t0, t1⟩
        · have y0' : w1.cell? ⟨p0, 0, none⟩ = some (.string ⟨Wd.toArray⟩) := by rw [← HWd.out]; exact y0
          clear y0 y1
          refine wp_region_lat_tail2 (Below.refl _ _) (by kernel_rfl) (by dsimp only [List.dropLast]) (by dsimp only [List.dropLast]; simp only [List.getLast?_cons_cons, List.getLast?_singleton]; rfl) (by simp only [List.getLast?_cons_cons, List.getLast?_singleton]; rfl) (by kernel_rfl) ?_
          intro hne hcl
          repeat (go_big_quiet_step (first | (go_at_call 40; exact lat_of (plainWord p0 t _ _ ((Lat.cell _ _ _ lt2).trans y0'))) | (go_at_call_of 20 (Value.agg #[.int .i64 a, .int .i64 b]); exact lat_of (blockTextI a b _ (P1.out.later (Lat.h _)) _ e1.out)) | (go_at_call_of 20 (Value.agg #[.int .i64 c, .int .i64 d]); exact lat_of (blockTextI c d _ (P1.out.later (Lat.h _)) _ e2.out))))
          refine wpQuiet_nil ?_
          intro w4 hb4
          clear hne hcl
          have T4 := hid_in (T1.out.later hb4)
          clear hb4 P1 D1 T1 q0 q1 q2 q3 q4 q5 z1 z3 z5 lt1 lt2 lt3
          go_wp2_with fail
          refine (join4 Wd BA BC R w4 (by omega) (by omega) (by omega) (by omega)).mono ?_
          rintro e w5 ⟨rfl, hb5⟩
          have T5 := hid_in (T4.out.later hb5)
          have lJ : (Wd ++ [32] ++ BA ++ [32] ++ BC ++ [32] ++ R).length ≤ 50000 := by simp; omega
          clear hb5 T4
          have EL4 := hid_in EL3.out
          generalize Wd ++ [32] ++ BA ++ [32] ++ BC ++ [32] ++ R = J at EL4 lJ
          go_wp2_with fail
          have es : ((⟨J.toArray⟩ : ByteArray) ++ ⟨#[10]⟩) = ⟨(J ++ [10]).toArray⟩ := by simp [bytes_append]
          rw [es]
          clear es
          refine (bWriteS w2.heap.size w2.heap.size (Lib.byteCells P) _ _ T5.out.bd (by simp [Lib.byteCells, ByteArray.size]; omega) T5.out.bel.size).mono ?_
          rintro e w6 ⟨rfl, hd6, hb6⟩
          have T6 : Hid (TBS w2 w6 (putT E (k + 1))) := by
            show TBS _ _ _
            refine ⟨T5.out.bel.trans hb6, ?_⟩
            rw [EL4.out, byteCells_app]
            exact hd6
          clear hd6 hb6
          go_wp2_with fail
          exact ⟨⟨k + 1, by omega, by simp, T6⟩, by simp [intOf]; omega⟩
        · have y1' : w1.cell? ⟨p1, 0, none⟩ = some (.string ⟨Wd.toArray⟩) := by rw [← HWd.out]; exact y1
          clear y0 y1
          refine wp_region_lat_tail2 (Below.refl _ _) (by kernel_rfl) (by dsimp only [List.dropLast]) (by dsimp only [List.dropLast]; simp only [List.getLast?_cons_cons, List.getLast?_singleton]; rfl) (by simp only [List.getLast?_cons_cons, List.getLast?_singleton]; rfl) (by kernel_rfl) ?_
          intro hne hcl
          repeat (go_big_quiet_step (first | (go_at_call 40; exact lat_of (plainWord p1 t _ _ ((Lat.cell _ _ _ lt3).trans y1'))) | (go_at_call_of 20 (Value.agg #[.int .i64 a, .int .i64 b]); exact lat_of (blockTextI a b _ (P1.out.later (Lat.h _)) _ e1.out)) | (go_at_call_of 20 (Value.agg #[.int .i64 c, .int .i64 d]); exact lat_of (blockTextI c d _ (P1.out.later (Lat.h _)) _ e2.out))))
          refine wpQuiet_nil ?_
          intro w4 hb4
          clear hne hcl
          have T4 := hid_in (T1.out.later hb4)
          clear hb4 P1 D1 T1 q0 q1 q2 q3 q4 q5 z1 z3 z5 lt1 lt2 lt3
          go_wp2_with fail
          refine (join4 Wd BA BC R w4 (by omega) (by omega) (by omega) (by omega)).mono ?_
          rintro e w5 ⟨rfl, hb5⟩
          have T5 := hid_in (T4.out.later hb5)
          have lJ : (Wd ++ [32] ++ BA ++ [32] ++ BC ++ [32] ++ R).length ≤ 50000 := by simp; omega
          clear hb5 T4
          have EL4 := hid_in EL3.out
          generalize Wd ++ [32] ++ BA ++ [32] ++ BC ++ [32] ++ R = J at EL4 lJ
          go_wp2_with fail
          have es : ((⟨J.toArray⟩ : ByteArray) ++ ⟨#[10]⟩) = ⟨(J ++ [10]).toArray⟩ := by simp [bytes_append]
          rw [es]
          clear es
          refine (bWriteS w2.heap.size w2.heap.size (Lib.byteCells P) _ _ T5.out.bd (by simp [Lib.byteCells, ByteArray.size]; omega) T5.out.bel.size).mono ?_
          rintro e w6 ⟨rfl, hd6, hb6⟩
          have T6 : Hid (TBS w2 w6 (putT E (k + 1))) := by
            show TBS _ _ _
            refine ⟨T5.out.bel.trans hb6, ?_⟩
            rw [EL4.out, byteCells_app]
            exact hd6
          clear hd6 hb6
          go_wp2_with fail
          exact ⟨⟨k + 1, by omega, by simp, T6⟩, by simp [intOf]; omega⟩
        · have ew := hid_in (show [103, 117, 97, 114, 100] ++ decI t = Wd by rw [← HWd.out]; rfl)
          clear y0 y1
          refine wp_region_lat_tail2 (Below.refl _ _) (by kernel_rfl) (by dsimp only [List.dropLast]) (by dsimp only [List.dropLast]; simp only [List.getLast?_cons_cons, List.getLast?_singleton]; rfl) (by simp only [List.getLast?_cons_cons, List.getLast?_singleton]; rfl) (by kernel_rfl) ?_
          intro hne hcl
          repeat (go_big_quiet_step (first | (go_at_call 42; exact lat_of (guardWord' t Wd _ t0 t1 (P1.out.later (Lat.h _)) ew.out)) | (go_at_call_of 20 (Value.agg #[.int .i64 a, .int .i64 b]); exact lat_of (blockTextI a b _ (P1.out.later (Lat.h _)) _ e1.out)) | (go_at_call_of 20 (Value.agg #[.int .i64 c, .int .i64 d]); exact lat_of (blockTextI c d _ (P1.out.later (Lat.h _)) _ e2.out))))
          refine wpQuiet_nil ?_
          intro w4 hb4
          clear hne hcl
          have T4 := hid_in (T1.out.later hb4)
          clear hb4 P1 D1 T1 q0 q1 q2 q3 q4 q5 z1 z3 z5 lt1 lt2 lt3
          go_wp2_with fail
          refine (join4 Wd BA BC R w4 (by omega) (by omega) (by omega) (by omega)).mono ?_
          rintro e w5 ⟨rfl, hb5⟩
          have T5 := hid_in (T4.out.later hb5)
          have lJ : (Wd ++ [32] ++ BA ++ [32] ++ BC ++ [32] ++ R).length ≤ 50000 := by simp; omega
          clear hb5 T4
          have EL4 := hid_in EL3.out
          generalize Wd ++ [32] ++ BA ++ [32] ++ BC ++ [32] ++ R = J at EL4 lJ
          go_wp2_with fail
          have es : ((⟨J.toArray⟩ : ByteArray) ++ ⟨#[10]⟩) = ⟨(J ++ [10]).toArray⟩ := by simp [bytes_append]
          rw [es]
          clear es
          refine (bWriteS w2.heap.size w2.heap.size (Lib.byteCells P) _ _ T5.out.bd (by simp [Lib.byteCells, ByteArray.size]; omega) T5.out.bel.size).mono ?_
          rintro e w6 ⟨rfl, hd6, hb6⟩
          have T6 : Hid (TBS w2 w6 (putT E (k + 1))) := by
            show TBS _ _ _
            refine ⟨T5.out.bel.trans hb6, ?_⟩
            rw [EL4.out, byteCells_app]
            exact hd6
          clear hd6 hb6
          go_wp2_with fail
          exact ⟨⟨k + 1, by omega, by simp, T6⟩, by simp [intOf]; omega⟩
      · have hd : decide ((k : Int) < (len : Int)) = false := by simp; omega
        obtain rfl : k = len := by omega
        go_wp2_with fail
        refine (Tryd.Builder_String_any w2.heap.size w2.heap.size (putT E k) _ HW.out.bd HW.out.bel.size).mono ?_
        rintro e w4 ⟨rfl, hb4⟩
        have HB4 := hid_in hb4
        clear hb4
        go_wp2_with fail
        go_ret
        exact ⟨true, V1.out, rfl, below_later HB2.out (HW.out.bel.trans HB4.out)⟩
set_option maxHeartbeats 600000 in
set_option maxRecDepth 100000 in
theorem rulesPutI (a : Option Addr) (len cap : Nat) (E : Nat → Nat → Int) (w : World) (hT : Tab w a len 8 E) (hl : len ≤ 1048576) (hp : Pow w) :
    Calls Tryd.prog 8 #[.slice a len cap] w fun e w' => ∃ v, AllOk (rbad E) len 8 v ∧ e = .returned (.string ⟨(if v then putT E len else []).toArray⟩) ∧ Below w.heap.size w w' := by
  rcases hT with rfl | ⟨bb, off, rfl, h1, k1⟩
  · go_enter Tryd.func8, Tryd.ntmps8
    go_wp2_with fail
    refine (rulesOkI _ 0 cap E _ (.inl rfl) (by omega)).mono ?_
    rintro e w1 ⟨v, rfl, V, hb1⟩
    have V1 := hid_in V; have HB1 := hid_in hb1
    clear V hb1
    cases v
    · go_wp2_with fail
      go_ret
      exact ⟨false, V1.out, rfl, HB1.out⟩
    · go_wp2_with fail
      refine (doings2_any _).mono ?_
      rintro e w2 ⟨B, p0, p1, rfl, hD, hb2⟩
      have HB2 := hid_in (below_later HB1.out hb2)
      have T0 := hid_in (TBS.new w2)
      clear hD hb2
      go_wp2_with fail
      generalize (w2.alloc (.cells #[.pointer none, .slice none 0 0] 47)) = W0 at *
      refine wp_loop_rounds 1 ?_
      rw [rounds_succ]
      go_wp2_with fail
      refine (Tryd.Builder_String_any w2.heap.size w2.heap.size [] _ T0.out.bd T0.out.bel.size).mono ?_
      rintro e w4 ⟨rfl, hb4⟩
      have HB4 := hid_in hb4
      clear hb4
      go_wp2_with fail
      go_ret
      exact ⟨true, V1.out, rfl, below_later HB2.out (T0.out.bel.trans HB4.out)⟩
  · exact rulesPutI_some bb off len cap E w h1 k1 hl hp
end Go.Proofs.YtbimfhlmcdpnmaaDoor
