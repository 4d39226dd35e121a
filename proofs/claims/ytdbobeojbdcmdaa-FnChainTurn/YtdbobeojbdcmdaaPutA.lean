/- A block turned, in the program. The conditions stand at each theorem. -/
import Derived.Test.YtdbobeojbdcmdaaBldB
namespace Go.Proofs.Ytdbobeojbdcmdaa
open Go.RowKit Go.LatT Go.BlockM Go.PlainAid Go.OpnT Go.ApdG Go.BytM Go.AesM Go.RowQ Go.RegH
set_option linter.unusedVariables false
set_option linter.unusedSimpArgs false
theorem lt_of_cell {w : World} {b o : Nat} {v : Value} (h : w.cell? ⟨b, o, none⟩ = some v) : b < w.heap.size := by
  unfold World.cell? at h
  rcases Nat.lt_or_ge b w.heap.size with h' | h'
  · exact h'
  · simp [Array.getElem?_eq_none h'] at h
theorem RB.text {w : World} {g : Nat} {f : Nat → Nat} (h : RB w g 16 41 f) (hf : By 16 f) : (convert 28 9 (.slice (some ⟨g, 0, none⟩) 16 16)).run Try.prog w = .ok (.string (txt 16 f)) w := by
  have := run_convert_bytes_back (P := Try.prog) w 28 9 5 ⟨g, 0, none⟩ 16 (tl 16 f) Try.underlying28 Try.underlying5 Try.underlying9 fun j hj => by
    rw [tl_len] at hj
    rw [RB.row h j hj, rC_get 16 f j hj]
    have := hf j hj
    simp [tl, hj]
    omega
  rw [tl_len] at this
  exact this
set_option maxHeartbeats 2000000 in
set_option maxRecDepth 100000 in
theorem put1_ok (s t : ByteArray) (b c : Nat) (w : World) (hs : s.size = 16) (ht : t.size = 16) (hb : w.cell? ⟨b, 0, none⟩ = some (.string s)) (hc : w.cell? ⟨c, 0, none⟩ = some (.string t)) :
    Calls Try.prog 33 #[.pointer (some ⟨b, 0, none⟩), .pointer (some ⟨c, 0, none⟩)] w fun e w' => e = .returned (.string (txt 16 (enc (KS (bn s)) (bn t) 10))) ∧ Below w.heap.size w w' := by
  have lb : b < w.heap.size := lt_of_cell hb
  have lc : c < w.heap.size := lt_of_cell hc
  go_enter Try.func33, Try.ntmps33
  go_wp2_with fail
  refine Code.wp_mono (Q := fun e a' w' => match e with | .normal => ∃ gt gk cap g, a' = { tmps := #[.pointer (some ⟨b, 0, none⟩), .pointer (some ⟨c, 0, none⟩), .string ⟨#[]⟩, .pointer (some ⟨g, 0, none⟩), .string s, .agg #[.pointer (some ⟨gt, 0, none⟩), .slice (some ⟨gk, 0, none⟩) 11 cap], .string t, .agg (rC 16 (bn t)), .agg (rC 16 (enc (KS (bn s)) (bn t) 10)), undef, undef], defers := [] } ∧ RB w' g 16 41 (enc (KS (bn s)) (bn t) 10) ∧ Below w.heap.size w w' | _ => False) ?_ ?_
  · intro e a' w' h
    cases e <;> first | exact h.elim | skip
    obtain ⟨gt, gk, cap, g, rfl, hR, hB⟩ := h
    have hcv := RB.text hR (enc_by (fun i _ => KS_by (fun i _ => bn_lt s i) i) (fun i _ => bn_lt t i) 10 (by omega))
    have HB := hid_in hB
    clear hB
    have hRl := hR.lt
    go_wp2_with fail
    go_ret
    exact ⟨rfl, HB.out⟩
  · refine wp_region_held_tail (S := fun w' => Below w.heap.size w w') (by kernel_rfl) (by dsimp only [List.dropLast]) (by exact rfl) (by kernel_rfl) ?_
    simp only [List.cons_append, List.nil_append]
    have H0 : Below w.heap.size w w.drew := (Below.refl _ _).drew
    refine wpAnyH_take (i := 0) (oi := { dst := some 4, op := Op.load 9 (Operand.tmp 0), type := 9, pos := "l6_aes.go:190", after := #[], guard := none }) (v := .string s) rfl (by kernel_rfl) (by kernel_rfl) (by kernel_rfl) (fun _ _ _ h => h) (Or.inl ⟨by rfl, ?_⟩) H0 ?_
    · intro w' hw
      have hc1 := (hw.cell (p := ⟨b, 0, none⟩) lb).trans hb
      go_simp
    try simp only [Act.put, List.setIfInBounds_toArray, List.set_cons_zero, List.set_cons_succ]
    refine wpAnyH_take (i := 2) (oi := { dst := some 6, op := Op.load 9 (Operand.tmp 1), type := 9, pos := "l6_aes.go:190", after := #[], guard := none }) (v := .string t) rfl (by kernel_rfl) (by kernel_rfl) (by kernel_rfl) (fun _ _ _ h => h) (Or.inl ⟨by rfl, ?_⟩) H0 ?_
    · intro w' hw
      have hc1 := (hw.cell (p := ⟨c, 0, none⟩) lc).trans hc
      go_simp
    try simp only [Act.put, List.setIfInBounds_toArray, List.set_cons_zero, List.set_cons_succ]
    refine wpAnyH_ready (rs := [1, 5]) (by kernel_rfl) (by simp) ?_
    refine AllReadyH.cons (o := { dst := some 5, op := Op.call { callee := Callee.value (Operand.func 34), args := #[Operand.tmp 4], argTypes := #[9] }, type := 45, pos := "l6_aes.go:190", after := #[{ on := 0, ground := Ground.data }], guard := none }) rfl (fun K' hK' => ?_) ?_
    · go_simp
      refine (cipherOf_ok s _ hs).mono ?_
      rintro e w1 ⟨gt, gk, cap, rfl, Tw1, Kw1, HB2'⟩
      have HB2 := H0.trans (HB2'.mono H0.size)
      refine hK'.out _ _ HB2 (fun _ => ?_)
      clear hK' K'
      try simp only [Act.put, List.setIfInBounds_toArray, List.set_cons_zero, List.set_cons_succ]
      refine wpAnyH_ready (rs := [3, 5]) (by kernel_rfl) (by simp) ?_
      refine AllReadyH.cons (o := { dst := some 7, op := Op.call { callee := Callee.value (Operand.func 36), args := #[Operand.tmp 6], argTypes := #[9] }, type := 41, pos := "l6_aes.go:190", after := #[{ on := 2, ground := Ground.data }, { on := 1, ground := Ground.chain }], guard := none }) rfl (fun K' hK' => ?_) ?_
      · go_simp
        refine (gridOf_ok t _ ht).mono ?_
        rintro e w3 ⟨rfl, HB4'⟩
        have HB4 := HB2.trans (HB4'.mono HB2.size)
        have Tw3 := RBlater Tw1 HB4'
        have Kw3 := Kw1.later HB4'
        refine hK'.out _ _ HB4 (fun _ => ?_)
        clear hK' K'
        try simp only [Act.put, List.setIfInBounds_toArray, List.set_cons_zero, List.set_cons_succ]
        refine wpAnyH_ready (rs := [4, 5]) (by kernel_rfl) (by simp) ?_
        refine AllReadyH.cons (o := { dst := some 8, op := Op.call { callee := Callee.value (Operand.func 35), args := #[Operand.tmp 5, Operand.tmp 7], argTypes := #[45, 41] }, type := 41, pos := "l6_aes.go:190", after := #[{ on := 1, ground := Ground.data }, { on := 3, ground := Ground.data }, { on := 3, ground := Ground.chain }], guard := none }) rfl (fun K' hK' => ?_) ?_
        · go_simp
          refine (put_any gt gk cap (KS (bn s)) (bn t) _ Tw3 Kw3 (fun i _ => bn_lt t i) (fun i _ => KS_by (fun i _ => bn_lt s i) i)).mono ?_
          rintro e w5 ⟨rfl, HB6'⟩
          have HB6 := HB4.trans (HB6'.mono HB4.size)
          refine hK'.out _ _ HB6 (fun _ => ?_)
          clear hK' K'
          try simp only [Act.put, List.setIfInBounds_toArray, List.set_cons_zero, List.set_cons_succ]
          refine wpAnyH_ready (rs := [5]) (by kernel_rfl) (by simp) ?_
          refine AllReadyH.cons (o := { dst := some 3, op := Op.alloc 41, type := 0, pos := "l6_aes.go:190", after := #[], guard := none }) rfl (fun K' hK' => ?_) AllReadyH.nil
          go_simp
          have HB8 := HB6.alloc HB6.size (.cells #[.int .u8 0, .int .u8 0, .int .u8 0, .int .u8 0, .int .u8 0, .int .u8 0, .int .u8 0, .int .u8 0, .int .u8 0, .int .u8 0, .int .u8 0, .int .u8 0, .int .u8 0, .int .u8 0, .int .u8 0, .int .u8 0] 41)
          have Rw7 : RB (w5.alloc (.cells #[.int .u8 0, .int .u8 0, .int .u8 0, .int .u8 0, .int .u8 0, .int .u8 0, .int .u8 0, .int .u8 0, .int .u8 0, .int .u8 0, .int .u8 0, .int .u8 0, .int .u8 0, .int .u8 0, .int .u8 0, .int .u8 0] 41)) w5.heap.size 16 41 (fun _ => 0) := by
            rw [zeroG]; exact RB.new w5 16 _ _
          have Tw7 := RBlater Tw3 (below_box _ (.cells #[.int .u8 0, .int .u8 0, .int .u8 0, .int .u8 0, .int .u8 0, .int .u8 0, .int .u8 0, .int .u8 0, .int .u8 0, .int .u8 0, .int .u8 0, .int .u8 0, .int .u8 0, .int .u8 0, .int .u8 0, .int .u8 0] 41))
          have Kw7 := Kw3.later (below_box _ (.cells #[.int .u8 0, .int .u8 0, .int .u8 0, .int .u8 0, .int .u8 0, .int .u8 0, .int .u8 0, .int .u8 0, .int .u8 0, .int .u8 0, .int .u8 0, .int .u8 0, .int .u8 0, .int .u8 0, .int .u8 0, .int .u8 0] 41))
          refine hK'.out _ _ HB8 (fun _ => ?_)
          clear hK' K'
          try simp only [Act.put, List.setIfInBounds_toArray, List.set_cons_zero, List.set_cons_succ]
          refine wpAnyH_take (i := 6) (v := .bool true) rfl (by kernel_rfl) (by kernel_rfl) (by kernel_rfl) (fun _ _ _ h => h) (Or.inl ⟨by rfl, fun w _ => by unfold execOp; rfl⟩) HB8 ?_
          simp only [blanked, Act.put]
          refine wpAnyH_done (by kernel_rfl) ?_ _
          show wpList _ _ _ _ _ _
          refine wpList_store_row rfl 41 _ _ rfl _ _ rfl rfl 41 _ Rw7 sizeG rfl (rC_one _ _) ?_
          exact ⟨gt, gk, cap, _, rfl, setRow_at Rw7, Below_setRow HB8 (HB6.size)⟩
        refine AllReadyH.cons (o := { dst := some 3, op := Op.alloc 41, type := 0, pos := "l6_aes.go:190", after := #[], guard := none }) rfl (fun K' hK' => ?_) AllReadyH.nil
        go_simp
        have HB10 := HB4.alloc HB4.size (.cells #[.int .u8 0, .int .u8 0, .int .u8 0, .int .u8 0, .int .u8 0, .int .u8 0, .int .u8 0, .int .u8 0, .int .u8 0, .int .u8 0, .int .u8 0, .int .u8 0, .int .u8 0, .int .u8 0, .int .u8 0, .int .u8 0] 41)
        have Rw9 : RB (w3.alloc (.cells #[.int .u8 0, .int .u8 0, .int .u8 0, .int .u8 0, .int .u8 0, .int .u8 0, .int .u8 0, .int .u8 0, .int .u8 0, .int .u8 0, .int .u8 0, .int .u8 0, .int .u8 0, .int .u8 0, .int .u8 0, .int .u8 0] 41)) w3.heap.size 16 41 (fun _ => 0) := by
          rw [zeroG]; exact RB.new w3 16 _ _
        have Tw9 := RBlater Tw3 (below_box _ (.cells #[.int .u8 0, .int .u8 0, .int .u8 0, .int .u8 0, .int .u8 0, .int .u8 0, .int .u8 0, .int .u8 0, .int .u8 0, .int .u8 0, .int .u8 0, .int .u8 0, .int .u8 0, .int .u8 0, .int .u8 0, .int .u8 0] 41))
        have Kw9 := Kw3.later (below_box _ (.cells #[.int .u8 0, .int .u8 0, .int .u8 0, .int .u8 0, .int .u8 0, .int .u8 0, .int .u8 0, .int .u8 0, .int .u8 0, .int .u8 0, .int .u8 0, .int .u8 0, .int .u8 0, .int .u8 0, .int .u8 0, .int .u8 0] 41))
        refine hK'.out _ _ HB10 (fun _ => ?_)
        clear hK' K'
        try simp only [Act.put, List.setIfInBounds_toArray, List.set_cons_zero, List.set_cons_succ]
        refine wpAnyH_ready (rs := [4]) (by kernel_rfl) (by simp) ?_
        refine AllReadyH.cons (o := { dst := some 8, op := Op.call { callee := Callee.value (Operand.func 35), args := #[Operand.tmp 5, Operand.tmp 7], argTypes := #[45, 41] }, type := 41, pos := "l6_aes.go:190", after := #[{ on := 1, ground := Ground.data }, { on := 3, ground := Ground.data }, { on := 3, ground := Ground.chain }], guard := none }) rfl (fun K' hK' => ?_) AllReadyH.nil
        go_simp
        refine (put_any gt gk cap (KS (bn s)) (bn t) _ Tw9 Kw9 (fun i _ => bn_lt t i) (fun i _ => KS_by (fun i _ => bn_lt s i) i)).mono ?_
        rintro e w11 ⟨rfl, HB12'⟩
        have HB12 := HB10.trans (HB12'.mono HB10.size)
        have Rw11 := RBlater Rw9 HB12'
        refine hK'.out _ _ HB12 (fun _ => ?_)
        clear hK' K'
        try simp only [Act.put, List.setIfInBounds_toArray, List.set_cons_zero, List.set_cons_succ]
        refine wpAnyH_take (i := 6) (v := .bool true) rfl (by kernel_rfl) (by kernel_rfl) (by kernel_rfl) (fun _ _ _ h => h) (Or.inl ⟨by rfl, fun w _ => by unfold execOp; rfl⟩) HB12 ?_
        simp only [blanked, Act.put]
        refine wpAnyH_done (by kernel_rfl) ?_ _
        show wpList _ _ _ _ _ _
        refine wpList_store_row rfl 41 _ _ rfl _ _ rfl rfl 41 _ Rw11 sizeG rfl (rC_one _ _) ?_
        exact ⟨gt, gk, cap, _, rfl, setRow_at Rw11, Below_setRow HB12 (HB4.size)⟩
      refine AllReadyH.cons (o := { dst := some 3, op := Op.alloc 41, type := 0, pos := "l6_aes.go:190", after := #[], guard := none }) rfl (fun K' hK' => ?_) AllReadyH.nil
      go_simp
      have HB14 := HB2.alloc HB2.size (.cells #[.int .u8 0, .int .u8 0, .int .u8 0, .int .u8 0, .int .u8 0, .int .u8 0, .int .u8 0, .int .u8 0, .int .u8 0, .int .u8 0, .int .u8 0, .int .u8 0, .int .u8 0, .int .u8 0, .int .u8 0, .int .u8 0] 41)
      have Rw13 : RB (w1.alloc (.cells #[.int .u8 0, .int .u8 0, .int .u8 0, .int .u8 0, .int .u8 0, .int .u8 0, .int .u8 0, .int .u8 0, .int .u8 0, .int .u8 0, .int .u8 0, .int .u8 0, .int .u8 0, .int .u8 0, .int .u8 0, .int .u8 0] 41)) w1.heap.size 16 41 (fun _ => 0) := by
        rw [zeroG]; exact RB.new w1 16 _ _
      have Tw13 := RBlater Tw1 (below_box _ (.cells #[.int .u8 0, .int .u8 0, .int .u8 0, .int .u8 0, .int .u8 0, .int .u8 0, .int .u8 0, .int .u8 0, .int .u8 0, .int .u8 0, .int .u8 0, .int .u8 0, .int .u8 0, .int .u8 0, .int .u8 0, .int .u8 0] 41))
      have Kw13 := Kw1.later (below_box _ (.cells #[.int .u8 0, .int .u8 0, .int .u8 0, .int .u8 0, .int .u8 0, .int .u8 0, .int .u8 0, .int .u8 0, .int .u8 0, .int .u8 0, .int .u8 0, .int .u8 0, .int .u8 0, .int .u8 0, .int .u8 0, .int .u8 0] 41))
      refine hK'.out _ _ HB14 (fun _ => ?_)
      clear hK' K'
      try simp only [Act.put, List.setIfInBounds_toArray, List.set_cons_zero, List.set_cons_succ]
      refine wpAnyH_ready (rs := [3]) (by kernel_rfl) (by simp) ?_
      refine AllReadyH.cons (o := { dst := some 7, op := Op.call { callee := Callee.value (Operand.func 36), args := #[Operand.tmp 6], argTypes := #[9] }, type := 41, pos := "l6_aes.go:190", after := #[{ on := 2, ground := Ground.data }, { on := 1, ground := Ground.chain }], guard := none }) rfl (fun K' hK' => ?_) AllReadyH.nil
      go_simp
      refine (gridOf_ok t _ ht).mono ?_
      rintro e w15 ⟨rfl, HB16'⟩
      have HB16 := HB14.trans (HB16'.mono HB14.size)
      have Tw15 := RBlater Tw13 HB16'
      have Kw15 := Kw13.later HB16'
      have Rw15 := RBlater Rw13 HB16'
      refine hK'.out _ _ HB16 (fun _ => ?_)
      clear hK' K'
      try simp only [Act.put, List.setIfInBounds_toArray, List.set_cons_zero, List.set_cons_succ]
      refine wpAnyH_ready (rs := [4]) (by kernel_rfl) (by simp) ?_
      refine AllReadyH.cons (o := { dst := some 8, op := Op.call { callee := Callee.value (Operand.func 35), args := #[Operand.tmp 5, Operand.tmp 7], argTypes := #[45, 41] }, type := 41, pos := "l6_aes.go:190", after := #[{ on := 1, ground := Ground.data }, { on := 3, ground := Ground.data }, { on := 3, ground := Ground.chain }], guard := none }) rfl (fun K' hK' => ?_) AllReadyH.nil
      go_simp
      refine (put_any gt gk cap (KS (bn s)) (bn t) _ Tw15 Kw15 (fun i _ => bn_lt t i) (fun i _ => KS_by (fun i _ => bn_lt s i) i)).mono ?_
      rintro e w17 ⟨rfl, HB18'⟩
      have HB18 := HB16.trans (HB18'.mono HB16.size)
      have Rw17 := RBlater Rw15 HB18'
      refine hK'.out _ _ HB18 (fun _ => ?_)
      clear hK' K'
      try simp only [Act.put, List.setIfInBounds_toArray, List.set_cons_zero, List.set_cons_succ]
      refine wpAnyH_take (i := 6) (v := .bool true) rfl (by kernel_rfl) (by kernel_rfl) (by kernel_rfl) (fun _ _ _ h => h) (Or.inl ⟨by rfl, fun w _ => by unfold execOp; rfl⟩) HB18 ?_
      simp only [blanked, Act.put]
      refine wpAnyH_done (by kernel_rfl) ?_ _
      show wpList _ _ _ _ _ _
      refine wpList_store_row rfl 41 _ _ rfl _ _ rfl rfl 41 _ Rw17 sizeG rfl (rC_one _ _) ?_
      exact ⟨gt, gk, cap, _, rfl, setRow_at Rw17, Below_setRow HB18 (HB2.size)⟩
    refine AllReadyH.cons (o := { dst := some 3, op := Op.alloc 41, type := 0, pos := "l6_aes.go:190", after := #[], guard := none }) rfl (fun K' hK' => ?_) AllReadyH.nil
    go_simp
    have HB20 := H0.alloc H0.size (.cells #[.int .u8 0, .int .u8 0, .int .u8 0, .int .u8 0, .int .u8 0, .int .u8 0, .int .u8 0, .int .u8 0, .int .u8 0, .int .u8 0, .int .u8 0, .int .u8 0, .int .u8 0, .int .u8 0, .int .u8 0, .int .u8 0] 41)
    have Rw19 : RB (w.drew.alloc (.cells #[.int .u8 0, .int .u8 0, .int .u8 0, .int .u8 0, .int .u8 0, .int .u8 0, .int .u8 0, .int .u8 0, .int .u8 0, .int .u8 0, .int .u8 0, .int .u8 0, .int .u8 0, .int .u8 0, .int .u8 0, .int .u8 0] 41)) w.drew.heap.size 16 41 (fun _ => 0) := by
      rw [zeroG]; exact RB.new w.drew 16 _ _
    refine hK'.out _ _ HB20 (fun _ => ?_)
    clear hK' K'
    try simp only [Act.put, List.setIfInBounds_toArray, List.set_cons_zero, List.set_cons_succ]
    refine wpAnyH_ready (rs := [1]) (by kernel_rfl) (by simp) ?_
    refine AllReadyH.cons (o := { dst := some 5, op := Op.call { callee := Callee.value (Operand.func 34), args := #[Operand.tmp 4], argTypes := #[9] }, type := 45, pos := "l6_aes.go:190", after := #[{ on := 0, ground := Ground.data }], guard := none }) rfl (fun K' hK' => ?_) AllReadyH.nil
    go_simp
    refine (cipherOf_ok s _ hs).mono ?_
    rintro e w21 ⟨gt, gk, cap, rfl, Tw21, Kw21, HB22'⟩
    have HB22 := HB20.trans (HB22'.mono HB20.size)
    have Rw21 := RBlater Rw19 HB22'
    refine hK'.out _ _ HB22 (fun _ => ?_)
    clear hK' K'
    try simp only [Act.put, List.setIfInBounds_toArray, List.set_cons_zero, List.set_cons_succ]
    refine wpAnyH_ready (rs := [3]) (by kernel_rfl) (by simp) ?_
    refine AllReadyH.cons (o := { dst := some 7, op := Op.call { callee := Callee.value (Operand.func 36), args := #[Operand.tmp 6], argTypes := #[9] }, type := 41, pos := "l6_aes.go:190", after := #[{ on := 2, ground := Ground.data }, { on := 1, ground := Ground.chain }], guard := none }) rfl (fun K' hK' => ?_) AllReadyH.nil
    go_simp
    refine (gridOf_ok t _ ht).mono ?_
    rintro e w23 ⟨rfl, HB24'⟩
    have HB24 := HB22.trans (HB24'.mono HB22.size)
    have Tw23 := RBlater Tw21 HB24'
    have Kw23 := Kw21.later HB24'
    have Rw23 := RBlater Rw21 HB24'
    refine hK'.out _ _ HB24 (fun _ => ?_)
    clear hK' K'
    try simp only [Act.put, List.setIfInBounds_toArray, List.set_cons_zero, List.set_cons_succ]
    refine wpAnyH_ready (rs := [4]) (by kernel_rfl) (by simp) ?_
    refine AllReadyH.cons (o := { dst := some 8, op := Op.call { callee := Callee.value (Operand.func 35), args := #[Operand.tmp 5, Operand.tmp 7], argTypes := #[45, 41] }, type := 41, pos := "l6_aes.go:190", after := #[{ on := 1, ground := Ground.data }, { on := 3, ground := Ground.data }, { on := 3, ground := Ground.chain }], guard := none }) rfl (fun K' hK' => ?_) AllReadyH.nil
    go_simp
    refine (put_any gt gk cap (KS (bn s)) (bn t) _ Tw23 Kw23 (fun i _ => bn_lt t i) (fun i _ => KS_by (fun i _ => bn_lt s i) i)).mono ?_
    rintro e w25 ⟨rfl, HB26'⟩
    have HB26 := HB24.trans (HB26'.mono HB24.size)
    have Rw25 := RBlater Rw23 HB26'
    refine hK'.out _ _ HB26 (fun _ => ?_)
    clear hK' K'
    try simp only [Act.put, List.setIfInBounds_toArray, List.set_cons_zero, List.set_cons_succ]
    refine wpAnyH_take (i := 6) (v := .bool true) rfl (by kernel_rfl) (by kernel_rfl) (by kernel_rfl) (fun _ _ _ h => h) (Or.inl ⟨by rfl, fun w _ => by unfold execOp; rfl⟩) HB26 ?_
    simp only [blanked, Act.put]
    refine wpAnyH_done (by kernel_rfl) ?_ _
    show wpList _ _ _ _ _ _
    refine wpList_store_row rfl 41 _ _ rfl _ _ rfl rfl 41 _ Rw25 sizeG rfl (rC_one _ _) ?_
    exact ⟨gt, gk, cap, _, rfl, setRow_at Rw25, Below_setRow HB26 (H0.size)⟩
set_option maxHeartbeats 2000000 in
set_option maxRecDepth 100000 in
theorem put1_no1 (s t : ByteArray) (b c : Nat) (w : World) (hs : s.size ≠ 16) (hs1 : s.size ≤ 1048576) (hb : w.cell? ⟨b, 0, none⟩ = some (.string s)) (hc : w.cell? ⟨c, 0, none⟩ = some (.string t)) :
    Calls Try.prog 33 #[.pointer (some ⟨b, 0, none⟩), .pointer (some ⟨c, 0, none⟩)] w fun e w' => PanP w e w' := by
  have lb : b < w.heap.size := lt_of_cell hb
  have lc : c < w.heap.size := lt_of_cell hc
  go_enter Try.func33, Try.ntmps33
  go_wp2_with fail
  refine Code.wp_mono (Q := fun e a' w' => match e with | .panic c => (∃ u pv, c = [{ v := .iface u pv, recovered := false }]) ∧ Below w.heap.size w w' ∧ a'.defers = [] | _ => False) ?_ ?_
  · intro e a' w' h
    cases e <;> first | exact h.elim | skip
    obtain ⟨⟨u, pv, rfl⟩, hB, hD⟩ := h
    have HB := hid_in hB
    clear hB
    go_wp2_with fail
    unfold bodyPost
    exact ⟨hD, ⟨_, _, rfl⟩, HB.out⟩
  · refine wp_region_held_tail (S := fun w' => Below w.heap.size w w') (by kernel_rfl) (by dsimp only [List.dropLast]) (by exact rfl) (by kernel_rfl) ?_
    simp only [List.cons_append, List.nil_append]
    have H0 : Below w.heap.size w w.drew := (Below.refl _ _).drew
    refine wpAnyH_take (i := 0) (oi := { dst := some 4, op := Op.load 9 (Operand.tmp 0), type := 9, pos := "l6_aes.go:190", after := #[], guard := none }) (v := .string s) rfl (by kernel_rfl) (by kernel_rfl) (by kernel_rfl) (fun _ _ _ h => h) (Or.inl ⟨by rfl, ?_⟩) H0 ?_
    · intro w' hw
      have hc1 := (hw.cell (p := ⟨b, 0, none⟩) lb).trans hb
      go_simp
    try simp only [Act.put, List.setIfInBounds_toArray, List.set_cons_zero, List.set_cons_succ]
    refine wpAnyH_take (i := 2) (oi := { dst := some 6, op := Op.load 9 (Operand.tmp 1), type := 9, pos := "l6_aes.go:190", after := #[], guard := none }) (v := .string t) rfl (by kernel_rfl) (by kernel_rfl) (by kernel_rfl) (fun _ _ _ h => h) (Or.inl ⟨by rfl, ?_⟩) H0 ?_
    · intro w' hw
      have hc1 := (hw.cell (p := ⟨c, 0, none⟩) lc).trans hc
      go_simp
    try simp only [Act.put, List.setIfInBounds_toArray, List.set_cons_zero, List.set_cons_succ]
    refine wpAnyH_ready (rs := [1, 5]) (by kernel_rfl) (by simp) ?_
    refine AllReadyH.cons (o := { dst := some 5, op := Op.call { callee := Callee.value (Operand.func 34), args := #[Operand.tmp 4], argTypes := #[9] }, type := 45, pos := "l6_aes.go:190", after := #[{ on := 0, ground := Ground.data }], guard := none }) rfl (fun K' hK' => ?_) ?_
    · go_simp
      refine (cipherOf_no s _ hs hs1).mono ?_
      rintro e w27 ⟨⟨u, pv, rfl⟩, HB28⟩
      exact ⟨⟨u, pv, rfl⟩, H0.trans (HB28.mono H0.size), rfl⟩
    refine AllReadyH.cons (o := { dst := some 3, op := Op.alloc 41, type := 0, pos := "l6_aes.go:190", after := #[], guard := none }) rfl (fun K' hK' => ?_) AllReadyH.nil
    go_simp
    have HB30 := H0.alloc H0.size (.cells #[.int .u8 0, .int .u8 0, .int .u8 0, .int .u8 0, .int .u8 0, .int .u8 0, .int .u8 0, .int .u8 0, .int .u8 0, .int .u8 0, .int .u8 0, .int .u8 0, .int .u8 0, .int .u8 0, .int .u8 0, .int .u8 0] 41)
    have Rw29 : RB (w.drew.alloc (.cells #[.int .u8 0, .int .u8 0, .int .u8 0, .int .u8 0, .int .u8 0, .int .u8 0, .int .u8 0, .int .u8 0, .int .u8 0, .int .u8 0, .int .u8 0, .int .u8 0, .int .u8 0, .int .u8 0, .int .u8 0, .int .u8 0] 41)) w.drew.heap.size 16 41 (fun _ => 0) := by
      rw [zeroG]; exact RB.new w.drew 16 _ _
    refine hK'.out _ _ HB30 (fun _ => ?_)
    clear hK' K'
    try simp only [Act.put, List.setIfInBounds_toArray, List.set_cons_zero, List.set_cons_succ]
    refine wpAnyH_ready (rs := [1]) (by kernel_rfl) (by simp) ?_
    refine AllReadyH.cons (o := { dst := some 5, op := Op.call { callee := Callee.value (Operand.func 34), args := #[Operand.tmp 4], argTypes := #[9] }, type := 45, pos := "l6_aes.go:190", after := #[{ on := 0, ground := Ground.data }], guard := none }) rfl (fun K' hK' => ?_) AllReadyH.nil
    go_simp
    refine (cipherOf_no s _ hs hs1).mono ?_
    rintro e w31 ⟨⟨u, pv, rfl⟩, HB32⟩
    exact ⟨⟨u, pv, rfl⟩, HB30.trans (HB32.mono HB30.size), rfl⟩
set_option maxHeartbeats 2000000 in
set_option maxRecDepth 100000 in
theorem put1_no2 (s t : ByteArray) (b c : Nat) (w : World) (hs : s.size = 16) (ht : t.size ≠ 16) (ht1 : t.size ≤ 1048576) (hb : w.cell? ⟨b, 0, none⟩ = some (.string s)) (hc : w.cell? ⟨c, 0, none⟩ = some (.string t)) :
    Calls Try.prog 33 #[.pointer (some ⟨b, 0, none⟩), .pointer (some ⟨c, 0, none⟩)] w fun e w' => PanP w e w' := by
  have lb : b < w.heap.size := lt_of_cell hb
  have lc : c < w.heap.size := lt_of_cell hc
  go_enter Try.func33, Try.ntmps33
  go_wp2_with fail
  refine Code.wp_mono (Q := fun e a' w' => match e with | .panic c => (∃ u pv, c = [{ v := .iface u pv, recovered := false }]) ∧ Below w.heap.size w w' ∧ a'.defers = [] | _ => False) ?_ ?_
  · intro e a' w' h
    cases e <;> first | exact h.elim | skip
    obtain ⟨⟨u, pv, rfl⟩, hB, hD⟩ := h
    have HB := hid_in hB
    clear hB
    go_wp2_with fail
    unfold bodyPost
    exact ⟨hD, ⟨_, _, rfl⟩, HB.out⟩
  · refine wp_region_held_tail (S := fun w' => Below w.heap.size w w') (by kernel_rfl) (by dsimp only [List.dropLast]) (by exact rfl) (by kernel_rfl) ?_
    simp only [List.cons_append, List.nil_append]
    have H0 : Below w.heap.size w w.drew := (Below.refl _ _).drew
    refine wpAnyH_take (i := 0) (oi := { dst := some 4, op := Op.load 9 (Operand.tmp 0), type := 9, pos := "l6_aes.go:190", after := #[], guard := none }) (v := .string s) rfl (by kernel_rfl) (by kernel_rfl) (by kernel_rfl) (fun _ _ _ h => h) (Or.inl ⟨by rfl, ?_⟩) H0 ?_
    · intro w' hw
      have hc1 := (hw.cell (p := ⟨b, 0, none⟩) lb).trans hb
      go_simp
    try simp only [Act.put, List.setIfInBounds_toArray, List.set_cons_zero, List.set_cons_succ]
    refine wpAnyH_take (i := 2) (oi := { dst := some 6, op := Op.load 9 (Operand.tmp 1), type := 9, pos := "l6_aes.go:190", after := #[], guard := none }) (v := .string t) rfl (by kernel_rfl) (by kernel_rfl) (by kernel_rfl) (fun _ _ _ h => h) (Or.inl ⟨by rfl, ?_⟩) H0 ?_
    · intro w' hw
      have hc1 := (hw.cell (p := ⟨c, 0, none⟩) lc).trans hc
      go_simp
    try simp only [Act.put, List.setIfInBounds_toArray, List.set_cons_zero, List.set_cons_succ]
    refine wpAnyH_ready (rs := [1, 5]) (by kernel_rfl) (by simp) ?_
    refine AllReadyH.cons (o := { dst := some 5, op := Op.call { callee := Callee.value (Operand.func 34), args := #[Operand.tmp 4], argTypes := #[9] }, type := 45, pos := "l6_aes.go:190", after := #[{ on := 0, ground := Ground.data }], guard := none }) rfl (fun K' hK' => ?_) ?_
    · go_simp
      refine (cipherOf_ok s _ hs).mono ?_
      rintro e w33 ⟨gt, gk, cap, rfl, Tw33, Kw33, HB34'⟩
      have HB34 := H0.trans (HB34'.mono H0.size)
      refine hK'.out _ _ HB34 (fun _ => ?_)
      clear hK' K'
      try simp only [Act.put, List.setIfInBounds_toArray, List.set_cons_zero, List.set_cons_succ]
      refine wpAnyH_ready (rs := [3, 5]) (by kernel_rfl) (by simp) ?_
      refine AllReadyH.cons (o := { dst := some 7, op := Op.call { callee := Callee.value (Operand.func 36), args := #[Operand.tmp 6], argTypes := #[9] }, type := 41, pos := "l6_aes.go:190", after := #[{ on := 2, ground := Ground.data }, { on := 1, ground := Ground.chain }], guard := none }) rfl (fun K' hK' => ?_) ?_
      · go_simp
        refine (gridOf_no t _ ht ht1).mono ?_
        rintro e w35 ⟨⟨u, pv, rfl⟩, HB36⟩
        exact ⟨⟨u, pv, rfl⟩, HB34.trans (HB36.mono HB34.size), rfl⟩
      refine AllReadyH.cons (o := { dst := some 3, op := Op.alloc 41, type := 0, pos := "l6_aes.go:190", after := #[], guard := none }) rfl (fun K' hK' => ?_) AllReadyH.nil
      go_simp
      have HB38 := HB34.alloc HB34.size (.cells #[.int .u8 0, .int .u8 0, .int .u8 0, .int .u8 0, .int .u8 0, .int .u8 0, .int .u8 0, .int .u8 0, .int .u8 0, .int .u8 0, .int .u8 0, .int .u8 0, .int .u8 0, .int .u8 0, .int .u8 0, .int .u8 0] 41)
      have Rw37 : RB (w33.alloc (.cells #[.int .u8 0, .int .u8 0, .int .u8 0, .int .u8 0, .int .u8 0, .int .u8 0, .int .u8 0, .int .u8 0, .int .u8 0, .int .u8 0, .int .u8 0, .int .u8 0, .int .u8 0, .int .u8 0, .int .u8 0, .int .u8 0] 41)) w33.heap.size 16 41 (fun _ => 0) := by
        rw [zeroG]; exact RB.new w33 16 _ _
      have Tw37 := RBlater Tw33 (below_box _ (.cells #[.int .u8 0, .int .u8 0, .int .u8 0, .int .u8 0, .int .u8 0, .int .u8 0, .int .u8 0, .int .u8 0, .int .u8 0, .int .u8 0, .int .u8 0, .int .u8 0, .int .u8 0, .int .u8 0, .int .u8 0, .int .u8 0] 41))
      have Kw37 := Kw33.later (below_box _ (.cells #[.int .u8 0, .int .u8 0, .int .u8 0, .int .u8 0, .int .u8 0, .int .u8 0, .int .u8 0, .int .u8 0, .int .u8 0, .int .u8 0, .int .u8 0, .int .u8 0, .int .u8 0, .int .u8 0, .int .u8 0, .int .u8 0] 41))
      refine hK'.out _ _ HB38 (fun _ => ?_)
      clear hK' K'
      try simp only [Act.put, List.setIfInBounds_toArray, List.set_cons_zero, List.set_cons_succ]
      refine wpAnyH_ready (rs := [3]) (by kernel_rfl) (by simp) ?_
      refine AllReadyH.cons (o := { dst := some 7, op := Op.call { callee := Callee.value (Operand.func 36), args := #[Operand.tmp 6], argTypes := #[9] }, type := 41, pos := "l6_aes.go:190", after := #[{ on := 2, ground := Ground.data }, { on := 1, ground := Ground.chain }], guard := none }) rfl (fun K' hK' => ?_) AllReadyH.nil
      go_simp
      refine (gridOf_no t _ ht ht1).mono ?_
      rintro e w39 ⟨⟨u, pv, rfl⟩, HB40⟩
      exact ⟨⟨u, pv, rfl⟩, HB38.trans (HB40.mono HB38.size), rfl⟩
    refine AllReadyH.cons (o := { dst := some 3, op := Op.alloc 41, type := 0, pos := "l6_aes.go:190", after := #[], guard := none }) rfl (fun K' hK' => ?_) AllReadyH.nil
    go_simp
    have HB42 := H0.alloc H0.size (.cells #[.int .u8 0, .int .u8 0, .int .u8 0, .int .u8 0, .int .u8 0, .int .u8 0, .int .u8 0, .int .u8 0, .int .u8 0, .int .u8 0, .int .u8 0, .int .u8 0, .int .u8 0, .int .u8 0, .int .u8 0, .int .u8 0] 41)
    have Rw41 : RB (w.drew.alloc (.cells #[.int .u8 0, .int .u8 0, .int .u8 0, .int .u8 0, .int .u8 0, .int .u8 0, .int .u8 0, .int .u8 0, .int .u8 0, .int .u8 0, .int .u8 0, .int .u8 0, .int .u8 0, .int .u8 0, .int .u8 0, .int .u8 0] 41)) w.drew.heap.size 16 41 (fun _ => 0) := by
      rw [zeroG]; exact RB.new w.drew 16 _ _
    refine hK'.out _ _ HB42 (fun _ => ?_)
    clear hK' K'
    try simp only [Act.put, List.setIfInBounds_toArray, List.set_cons_zero, List.set_cons_succ]
    refine wpAnyH_ready (rs := [1]) (by kernel_rfl) (by simp) ?_
    refine AllReadyH.cons (o := { dst := some 5, op := Op.call { callee := Callee.value (Operand.func 34), args := #[Operand.tmp 4], argTypes := #[9] }, type := 45, pos := "l6_aes.go:190", after := #[{ on := 0, ground := Ground.data }], guard := none }) rfl (fun K' hK' => ?_) AllReadyH.nil
    go_simp
    refine (cipherOf_ok s _ hs).mono ?_
    rintro e w43 ⟨gt, gk, cap, rfl, Tw43, Kw43, HB44'⟩
    have HB44 := HB42.trans (HB44'.mono HB42.size)
    have Rw43 := RBlater Rw41 HB44'
    refine hK'.out _ _ HB44 (fun _ => ?_)
    clear hK' K'
    try simp only [Act.put, List.setIfInBounds_toArray, List.set_cons_zero, List.set_cons_succ]
    refine wpAnyH_ready (rs := [3]) (by kernel_rfl) (by simp) ?_
    refine AllReadyH.cons (o := { dst := some 7, op := Op.call { callee := Callee.value (Operand.func 36), args := #[Operand.tmp 6], argTypes := #[9] }, type := 41, pos := "l6_aes.go:190", after := #[{ on := 2, ground := Ground.data }, { on := 1, ground := Ground.chain }], guard := none }) rfl (fun K' hK' => ?_) AllReadyH.nil
    go_simp
    refine (gridOf_no t _ ht ht1).mono ?_
    rintro e w45 ⟨⟨u, pv, rfl⟩, HB46⟩
    exact ⟨⟨u, pv, rfl⟩, HB44.trans (HB46.mono HB44.size), rfl⟩
end Go.Proofs.Ytdbobeojbdcmdaa
