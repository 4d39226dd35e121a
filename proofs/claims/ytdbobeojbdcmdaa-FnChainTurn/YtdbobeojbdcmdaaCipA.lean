/- The keys of AES made ready, in the program, as a contract. The conditions stand at each theorem. -/
import Derived.Test.YtdbobeojbdcmdaaAesZ
namespace Go.Proofs.Ytdbobeojbdcmdaa
open Go.RowKit Go.LatT Go.BlockM Go.PlainAid Go.OpnT Go.ApdG Go.BytM Go.AesM Go.RowQ Go.RegH
set_option linter.unusedVariables false
set_option linter.unusedSimpArgs false
theorem sizeC : (Try.prog.info? 45).map (·.size) = some 2 := by kernel_rfl
theorem oneC (p : Option Addr) (a : Option Addr) (n c : Nat) : (#[Value.pointer p, Value.slice a n c] : Array Value).all (·.oneCell') = true := by
  rw [Array.all_eq_true_iff_forall_mem]
  intro x hx
  simp at hx
  rcases hx with rfl | rfl <;> rfl
/-- What making keys ready answers. -/
def CipP (w : World) (f : Nat → Nat) (e : Ending) (w' : World) : Prop := ∃ gt gk cap, e = .returned (.agg #[.pointer (some ⟨gt, 0, none⟩), .slice (some ⟨gk, 0, none⟩) 11 cap]) ∧ RB w' gt 512 69 (tabF 255) ∧ KR w' gk 11 (KS f) ∧ Below w.heap.size w w'
set_option maxHeartbeats 4000000 in
set_option maxRecDepth 100000 in
theorem cipherOf_ok (s : ByteArray) (w : World) (h : s.size = 16) :
    Calls Try.prog 34 #[.string s] w fun e w' => CipP w (bn s) e w' := by
  have hf : By 16 (bn s) := fun i _ => bn_lt s i
  go_enter Try.func34, Try.ntmps34
  go_wp2_with fail
  refine (newTable_any _).mono ?_
  rintro e w1 ⟨gt, rfl, hgt, T1, hb1⟩
  have HT1 := hid_in T1; have HB1 := hid_in hb1
  have R0 : Hid ((w.alloc (.cells #[.pointer none, .slice none 0 0] 45)).heap[w.heap.size]? = some (.cells #[.pointer none, .slice none 0 0] 45 (0, 0))) := heap_alloc_new w _
  have Z0 := hid_in (below_box w (.cells #[.pointer none, .slice none 0 0] 45))
  have S0 : (w.alloc (.cells #[.pointer none, .slice none 0 0] 45)).heap.size = w.heap.size + 1 := by simp
  clear T1 hb1
  go_wp2_with fail
  refine (gridOf_ok s _ h).mono ?_
  rintro e w2 ⟨rfl, hb2⟩
  have HB2 := hid_in hb2
  clear hb2
  go_wp2_with (first | (refine wpList_buildG rfl (.tmp 8) (bn s) rfl rfl ?_))
  have C0 : Hid (CS w ((w2.alloc (.cells (rC 16 (bn s)) 41)).alloc (.cells #[.pointer (some ⟨gt, 0, none⟩), .slice (some ⟨w2.heap.size, 0, none⟩) 1 1] 45)) (w2.heap.size + 1) gt 1 (.slice (some ⟨w2.heap.size, 0, none⟩) 1 1) (KS (bn s))) := by
    have z1 := HB1.out.size
    have z2 := HB2.out.size
    rw [S0] at z1
    have b2 : Below w.heap.size w w2 := below_later (below_later Z0.out HB1.out) HB2.out
    refine ⟨(b2.alloc b2.size _).alloc (by simp; omega) _, ?_, ?_, ?_, ?_, by omega⟩
    · rw [heap_alloc_old _ _ (by simp; omega), heap_alloc_old _ _ (by omega), HB2.out.block _ (by omega), HB1.out.block _ (by rw [S0]; omega)]; exact R0.out
    · have := heap_alloc_new (w2.alloc (.cells (rC 16 (bn s)) 41)) (.cells #[.pointer (some ⟨gt, 0, none⟩), .slice (some ⟨w2.heap.size, 0, none⟩) 1 1] 45)
      simp only [World.size_alloc] at this
      exact this
    · exact RBlater (RBlater (RBlater HT1.out HB2.out) (below_box _ _)) (below_box _ _)
    · have h := World.ownsRow_lit (base := w.heap.size) (e := 41) (size := 16) w2 (rC 16 (bn s)) 1 b2.size (by unfold maxLen; omega) (by rw [rC_size])
      have e1 : (rC 16 (bn s)).toList = gC 1 (KS (bn s)) := by simp [gC]; rfl
      rw [e1] at h
      exact h.alloc _
  generalize ((w2.alloc (.cells (rC 16 (bn s)) 41)).alloc (.cells #[.pointer (some ⟨gt, 0, none⟩), .slice (some ⟨w2.heap.size, 0, none⟩) 1 1] 45)) = W0 at *
  generalize w2.heap.size + 1 = gc at *
  have C1 : ∃ v, v = Value.slice (some ⟨w2.heap.size, 0, none⟩) 1 1 ∧ Hid (CS w W0 gc gt 1 v (KS (bn s))) := ⟨_, rfl, C0⟩
  obtain ⟨v0, _, C2⟩ := C1
  clear C0 HB1 HB2 R0 Z0 S0 HT1 hgt
  go_loopw [4, 11] (fun f v wr => ∃ k : Nat, k ≤ 10 ∧ v = .int .i64 (k : Int) ∧ f = .int .u8 ((rc k : Nat) : Int) ∧ ∃ u, Hid (CS w wr gc gt (k + 1) u (KS (bn s)))) (fun _ v _ => 10 - (intOf v).toNat)
  case atStart => exact ⟨0, by omega, rfl, rfl, _, C2⟩
  case round =>
    obtain ⟨k, hk, rfl, rfl, u, HW⟩ := hrel
    obtain ⟨gk, c, cur, rfl, hc, hgk, RR, hh, hz⟩ := HW.out.own.row (by omega)
    have HK := hid_in RR
    clear RR hz
    by_cases hlt : k < 10
    · have HL := hid_in hlt
      have q1 : (k : Int) < 10 := by omega
      have q2 : (k : Int) < (k : Int) + 1 := by omega
      go_wp2_with fail
      refine wp_region_held_tail (S := fun w' => CB w' gc gt (.slice (some ⟨gk, 0, none⟩) (k + 1) c) ∧ KR w' gk (k + 1) (KS (bn s))) (by kernel_rfl) (by dsimp only [List.dropLast]) (by exact rfl) (by kernel_rfl) ?_
      simp only [List.cons_append, List.nil_append]
      have H0 : CB wr.drew gc gt (.slice (some ⟨gk, 0, none⟩) (k + 1) c) ∧ KR wr.drew gk (k + 1) (KS (bn s)) := ⟨HW.out.box, ⟨HK.out.lt, HK.out.cell⟩⟩
      refine wpAnyH_take (i := 0) (oi := { dst := some 14, op := Op.fieldAddr 45 (Operand.tmp 3) 1, type := 0, pos := "l6_aes.go:144", after := #[], guard := none }) (v := .pointer (some ⟨gc, 1, none⟩)) rfl (by kernel_rfl) (by kernel_rfl) (by kernel_rfl) (fun _ _ _ h => h) (Or.inl ⟨by rfl, ?_⟩) H0 ?_
      · intro w hw
        go_simp
      try simp only [Act.put, List.setIfInBounds_toArray, List.set_cons_zero, List.set_cons_succ]
      refine wpAnyH_take (i := 1) (oi := { dst := some 15, op := Op.load 43 (Operand.tmp 14), type := 43, pos := "l6_aes.go:144", after := #[{ on := 0, ground := Ground.data }], guard := none }) (v := .slice (some ⟨gk, 0, none⟩) (k + 1) c) rfl (by kernel_rfl) (by kernel_rfl) (by kernel_rfl) (fun _ _ _ h => h) (Or.inl ⟨by rfl, ?_⟩) H0 ?_
      · intro w hw
        have hc1 := hw.1.c1
        go_simp
      try simp only [Act.put, List.setIfInBounds_toArray, List.set_cons_zero, List.set_cons_succ]
      refine wpAnyH_take (i := 2) (oi := { dst := some 16, op := Op.load 45 (Operand.tmp 3), type := 45, pos := "l6_aes.go:144", after := #[], guard := none }) (v := .agg #[.pointer (some ⟨gt, 0, none⟩), .slice (some ⟨gk, 0, none⟩) (k + 1) c]) rfl (by kernel_rfl) (by kernel_rfl) (by kernel_rfl) (fun _ _ _ h => h) (yieldsIf_load_at aggC rfl (.tmp 3) rfl ⟨gc, 0, none⟩ rfl #[.pointer (some ⟨gt, 0, none⟩), .slice (some ⟨gk, 0, none⟩) (k + 1) c] rfl (fun w hw => hw.1.row)) H0 ?_
      try simp only [Act.put, List.setIfInBounds_toArray, List.set_cons_zero, List.set_cons_succ]
      refine wpAnyH_take (i := 3) (oi := { dst := some 17, op := Op.fieldAddr 45 (Operand.tmp 3) 1, type := 0, pos := "l6_aes.go:144", after := #[], guard := none }) (v := .pointer (some ⟨gc, 1, none⟩)) rfl (by kernel_rfl) (by kernel_rfl) (by kernel_rfl) (fun _ _ _ h => h) (Or.inl ⟨by rfl, ?_⟩) H0 ?_
      · intro w hw
        go_simp
      try simp only [Act.put, List.setIfInBounds_toArray, List.set_cons_zero, List.set_cons_succ]
      refine wpAnyH_take (i := 4) (oi := { dst := some 18, op := Op.load 43 (Operand.tmp 17), type := 43, pos := "l6_aes.go:144", after := #[{ on := 3, ground := Ground.data }], guard := none }) (v := .slice (some ⟨gk, 0, none⟩) (k + 1) c) rfl (by kernel_rfl) (by kernel_rfl) (by kernel_rfl) (fun _ _ _ h => h) (Or.inl ⟨by rfl, ?_⟩) H0 ?_
      · intro w hw
        have hc1 := hw.1.c1
        go_simp
      try simp only [Act.put, List.setIfInBounds_toArray, List.set_cons_zero, List.set_cons_succ]
      refine wpAnyH_take (i := 5) (oi := { dst := some 19, op := Op.move (Operand.tmp 5), type := 3, pos := "l6_aes.go:144", after := #[], guard := none }) (v := .int .i64 (k : Int)) rfl (by kernel_rfl) (by kernel_rfl) (by kernel_rfl) (fun _ _ _ h => h) (Or.inl ⟨by rfl, ?_⟩) H0 ?_
      · intro w hw
        go_simp
      try simp only [Act.put, List.setIfInBounds_toArray, List.set_cons_zero, List.set_cons_succ]
      refine wpAnyH_take (i := 6) (oi := { dst := some 20, op := Op.indexAddr 43 (Operand.tmp 18) (Operand.tmp 19), type := 0, pos := "l6_aes.go:144", after := #[{ on := 4, ground := Ground.data }, { on := 5, ground := Ground.data }], guard := none }) (v := .pointer (some ⟨gk, k * 16, none⟩)) rfl (by kernel_rfl) (by kernel_rfl) (by kernel_rfl) (fun _ _ _ h => h) (Or.inl ⟨by rfl, ?_⟩) H0 ?_
      · intro w hw
        go_simp
      try simp only [Act.put, List.setIfInBounds_toArray, List.set_cons_zero, List.set_cons_succ]
      refine wpAnyH_take (i := 7) (oi := { dst := some 21, op := Op.load 41 (Operand.tmp 20), type := 41, pos := "l6_aes.go:144", after := #[{ on := 6, ground := Ground.data }], guard := none }) (v := .agg (rC 16 (KS (bn s) k))) rfl (by kernel_rfl) (by kernel_rfl) (by kernel_rfl) (fun _ _ _ h => h) (yieldsIf_load_at aggG rfl (.tmp 20) rfl ⟨gk, k * 16, none⟩ rfl (rC 16 (KS (bn s) k)) (rC_size _ _) (fun w hw => hw.2.row k (by omega))) H0 ?_
      try simp only [Act.put, List.setIfInBounds_toArray, List.set_cons_zero, List.set_cons_succ]
      refine wpAnyH_take (i := 8) (oi := { dst := some 22, op := Op.move (Operand.tmp 4), type := 5, pos := "l6_aes.go:144", after := #[], guard := none }) (v := .int .u8 ((rc k : Nat) : Int)) rfl (by kernel_rfl) (by kernel_rfl) (by kernel_rfl) (fun _ _ _ h => h) (Or.inl ⟨by rfl, ?_⟩) H0 ?_
      · intro w hw
        go_simp
      try simp only [Act.put, List.setIfInBounds_toArray, List.set_cons_zero, List.set_cons_succ]
      refine wpAnyH_ready (rs := [9]) (by kernel_rfl) (by simp) ?_
      refine AllReadyH.cons (o := { dst := some 23, op := Op.call { callee := Callee.value (Operand.func 61), args := #[Operand.tmp 16, Operand.tmp 21, Operand.tmp 22], argTypes := #[45, 41, 5] }, type := 41, pos := "l6_aes.go:144", after := #[{ on := 2, ground := Ground.data }, { on := 7, ground := Ground.data }, { on := 8, ground := Ground.data }], guard := none }) rfl (fun K' hK' => ?_) AllReadyH.nil
      go_simp
      refine (nextKey_any gt (rc k) _ (KS (bn s) k) _ (show RB wr.drew gt 512 69 (tabF 255) from HW.out.tab) (KS_by hf k) (rc_lt k)).mono ?_
      rintro e w5 ⟨rfl, hb5⟩
      have HB5 := hid_in hb5
      clear hb5
      have H5 : CB w5 gc gt (.slice (some ⟨gk, 0, none⟩) (k + 1) c) ∧ KR w5 gk (k + 1) (KS (bn s)) := ⟨H0.1.later HB5.out, H0.2.later HB5.out⟩
      refine hK'.out _ _ H5 (fun _ => ?_)
      clear hK' K'
      try simp only [Act.put, List.setIfInBounds_toArray, List.set_cons_zero, List.set_cons_succ]
      refine wpAnyH_ready (rs := [10]) (by kernel_rfl) (by simp) ?_
      refine AllReadyH.cons (o := { dst := some 24, op := Op.buildSlice 43 1 #[(0, Operand.tmp 23)], type := 43, pos := "l6_aes.go:144", after := #[{ on := 9, ground := Ground.data }], guard := none }) rfl (fun K' hK' => ?_) AllReadyH.nil
      rw [if_pos (by rfl)]
      refine wp_buildG (.tmp 23) (nk (KS (bn s) k) (rc k)) rfl rfl ?_
      have H6 : CB (w5.alloc (.cells (rC 16 (nk (KS (bn s) k) (rc k))) 41)) gc gt (.slice (some ⟨gk, 0, none⟩) (k + 1) c) ∧ KR (w5.alloc (.cells (rC 16 (nk (KS (bn s) k) (rc k))) 41)) gk (k + 1) (KS (bn s)) := ⟨H5.1.later (below_box _ _), H5.2.later (below_box _ _)⟩
      refine hK'.out _ _ H6 (fun _ => ?_)
      clear hK' K'
      try simp only [Act.put, List.setIfInBounds_toArray, List.set_cons_zero, List.set_cons_succ]
      have C5 := hid_in ((CS.later (W' := w5) (⟨HW.out.bel.drew, HW.out.res, HW.out.box, HW.out.tab, HW.out.own, HW.out.gcb⟩ : CS w wr.drew gc gt (k + 1) (.slice (some ⟨gk, 0, none⟩) (k + 1) c) (KS (bn s))) HB5.out).later (below_box _ (.cells (rC 16 (nk (KS (bn s) k) (rc k))) 41)))
      refine wpAnyH_ready (rs := [11]) (by kernel_rfl) (by simp) ?_
      refine AllReadyH.cons (o := { dst := some 25, op := Op.call { callee := Callee.builtin Builtin.append, args := #[Operand.tmp 15, Operand.tmp 24], argTypes := #[43, 43] }, type := 43, pos := "l6_aes.go:144", after := #[{ on := 1, ground := Ground.data }, { on := 10, ground := Ground.data }, { on := 9, ground := Ground.chain }], guard := none }) rfl (fun K' hK' => ?_) AllReadyH.nil
      rw [if_pos (by rfl)]
      refine wpK1 elemG (.tmp 15) (.tmp 24) rfl w.heap.size gk (k + 1) c (gC (k + 1) (KS (bn s))) rfl C5.out.own ⟨w5.heap.size, 0, none⟩ 1 1 (rC 16 (nk (KS (bn s) k) (rc k))).toList rfl (by rw [Array.length_toList, rC_size]) (fun j u hj => by have := cells_new w5 (rC 16 (nk (KS (bn s) k) (rc k))).toList 41 j u hj; simpa using this) (fun u hu => by have := rC_one 16 (nk (KS (bn s) k) (rc k)); rw [Array.all_eq_true_iff_forall_mem] at this; exact this u (by simpa using hu)) (by omega) C5.out.bel.size ?_
      intro v7 w7 G7
      have HG := hid_in G7
      have H7 : CB w7 gc gt (.slice (some ⟨gk, 0, none⟩) (k + 1) c) ∧ KR w7 gk (k + 1) (KS (bn s)) := by
        have h5 := G7.by_.5
        obtain ⟨_, _, cur, hu, _, _, R, hh, _⟩ := C5.out.own.row (by omega)
        have hu2 := by simpa using hu
        obtain ⟨rfl, rfl⟩ := hu2
        have ne1 := C5.out.box.ne_grid hh
        refine ⟨?_, Nat.lt_of_lt_of_le R.lt G7.by_.4, fun i hi j hj => ?_⟩
        · unfold CB; rw [h5 gc C5.out.box.lt (by simp; exact ne1)]; exact C5.out.box
        · have := G7.old (i * 16 + j) _ (gC_get (KS (bn s)) (k + 1) i j hi hj)
          unfold Addr.add at this
          by_cases hz : i * 16 + j = 0
          · rw [if_pos hz] at this; rw [hz]; exact this
          · rw [if_neg hz, Nat.zero_add] at this; exact this
      clear G7
      refine hK'.out _ _ H7 (fun _ => ?_)
      clear hK' K'
      try simp only [Act.put, List.setIfInBounds_toArray, List.set_cons_zero, List.set_cons_succ]
      refine wpAnyH_take (i := 12) (oi := { dst := some 26, op := Op.fieldAddr 45 (Operand.tmp 3) 1, type := 0, pos := "l6_aes.go:144", after := #[{ on := 0, ground := Ground.phase }, { on := 1, ground := Ground.phase }, { on := 2, ground := Ground.phase }, { on := 3, ground := Ground.phase }, { on := 4, ground := Ground.phase }, { on := 5, ground := Ground.phase }, { on := 6, ground := Ground.phase }, { on := 7, ground := Ground.phase }, { on := 8, ground := Ground.phase }, { on := 9, ground := Ground.phase }, { on := 10, ground := Ground.phase }, { on := 11, ground := Ground.phase }], guard := none }) (v := .pointer (some ⟨gc, 1, none⟩)) rfl (by kernel_rfl) (by kernel_rfl) (by kernel_rfl) (fun _ _ _ h => h) (Or.inl ⟨by rfl, ?_⟩) H7 ?_
      · intro w hw
        go_simp
      try simp only [Act.put, List.setIfInBounds_toArray, List.set_cons_zero, List.set_cons_succ]
      refine wpAnyH_take (i := 13) (v := .bool true) rfl (by kernel_rfl) (by kernel_rfl) (by kernel_rfl) (fun _ _ _ h => h) (Or.inl ⟨by rfl, fun w _ => by unfold execOp; rfl⟩) H7 ?_
      simp only [blanked, Act.put]
      refine wpAnyH_done (by kernel_rfl) ?_ _
      have C8 := hid_in ((C5.out.grew (by omega) HG.out).congrK (L := KS (bn s)) (fun i hi => by
        by_cases e : i = k + 1
        · rw [if_pos e, e]; intro j _; rfl
        · rw [if_neg e]; intro j _; rfl))
      obtain ⟨g8, c8, cur8, rfl, _, _, _, _, _⟩ := C8.out.own.row (by omega)
      have k1 := H7.1.c1
      have k2 := H7.1.frozen 1
      clear H0 H5 H6 H7 HB5 C5 HW HK hh HG
      show wpList _ _ _ _ _ _
      go_wp2_with fail
      refine (times_any (rc k) 2 _ (rc_lt k) (by omega)).mono ?_
      rintro e w9 ⟨rfl, rfl⟩
      rw [show mul (rc k) 2 = rc (k + 1) from mul_two ⟨rc k, rc_lt k⟩]
      go_wp2_with fail
      exact ⟨⟨k + 1, HL.out, by simp, rfl, _, C8⟩, by have := HL.out; simp [intOf]; omega⟩
    · obtain rfl : k = 10 := by omega
      have q1 : ¬ (10 : Int) < 10 := by omega
      have B := hid_in HW.out.box
      have R := hid_in HW.out.res
      go_wp2_with (first | (refine wpList_load_row rfl 45 _ rfl gc rfl 45 _ (0, 0) _ B.out Try.underlying45 rfl sizeC ?_) | (refine wpList_store_row rfl 45 _ _ rfl w.heap.size _ rfl rfl 45 _ R.out sizeC rfl (oneC _ _ _ _) ?_))
      refine bodyPost_ret (v := .agg #[.pointer (some ⟨gt, 0, none⟩), .slice (some ⟨gk, 0, none⟩) 11 c]) (results_cell_row Try.results34 _ _ w.heap.size 45 _ (0, 0) _ rfl (setRow_at R.out) Try.underlying45 rfl sizeC) rfl ?_
      have hgt : gt ≠ w.heap.size := by
        intro e
        have ht : wr.heap[gt]? = _ := HW.out.tab
        rw [e, R.out] at ht
        have := congrArg (fun o => match o with | some (Obj.cells _ t _) => t | _ => 0) ht
        simp at this
      have hgk2 : gk ≠ w.heap.size := by
        intro e
        rw [e, R.out] at hh
        have := congrArg (fun o => match o with | some (Obj.cells _ t _) => t | _ => 0) hh
        simp at this
      refine ⟨gt, gk, c, rfl, ?_, ⟨?_, fun i hi j hj => ?_⟩, Below_setRow HW.out.bel (Nat.le_refl _)⟩
      · unfold RB; rw [setRow_other hgt]; exact HW.out.tab
      · simpa [World.setRow] using HK.out.lt
      · have := HK.out.cell i hi j hj
        unfold World.cell? at this ⊢
        rw [setRow_other hgk2]
        exact this
end Go.Proofs.Ytdbobeojbdcmdaa
