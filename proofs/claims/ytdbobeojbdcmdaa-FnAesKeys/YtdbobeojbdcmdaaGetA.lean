/- A block turned, in the program. The conditions stand at each theorem. -/
import Derived.Test.YtdbobeojbdcmdaaPutA
namespace Go.Proofs.Ytdbobeojbdcmdaa
open Go.RowKit Go.LatT Go.BlockM Go.PlainAid Go.OpnT Go.ApdG Go.BytM Go.AesM Go.RowQ Go.RegH
set_option linter.unusedVariables false
set_option linter.unusedSimpArgs false
set_option maxHeartbeats 2000000 in
set_option maxRecDepth 100000 in
theorem get1_ok (s t : ByteArray) (b c : Nat) (w : World) (hs : s.size = 16) (ht : t.size = 16) (hb : w.cell? ⟨b, 0, none⟩ = some (.string s)) (hc : w.cell? ⟨c, 0, none⟩ = some (.string t)) :
    Calls Try.prog 38 #[.pointer (some ⟨b, 0, none⟩), .pointer (some ⟨c, 0, none⟩)] w fun e w' => e = .returned (.string (txt 16 (fun i => dec (KS (bn s)) (bn t) 10 i ^^^ KS (bn s) 0 i))) ∧ Below w.heap.size w w' := by
  have lb : b < w.heap.size := lt_of_cell hb
  have lc : c < w.heap.size := lt_of_cell hc
  go_enter Try.func38, Try.ntmps38
  go_wp2_with fail
  refine Code.wp_mono (Q := fun e a' w' => match e with | .normal => ∃ gt gk cap g, a' = { tmps := #[.pointer (some ⟨b, 0, none⟩), .pointer (some ⟨c, 0, none⟩), .string ⟨#[]⟩, .pointer (some ⟨g, 0, none⟩), .string s, .agg #[.pointer (some ⟨gt, 0, none⟩), .slice (some ⟨gk, 0, none⟩) 11 cap], .string t, .agg (rC 16 (bn t)), .agg (rC 16 (fun i => dec (KS (bn s)) (bn t) 10 i ^^^ KS (bn s) 0 i)), undef, undef], defers := [] } ∧ RB w' g 16 41 (fun i => dec (KS (bn s)) (bn t) 10 i ^^^ KS (bn s) 0 i) ∧ Below w.heap.size w w' | _ => False) ?_ ?_
  · intro e a' w' h
    cases e <;> first | exact h.elim | skip
    obtain ⟨gt, gk, cap, g, rfl, hR, hB⟩ := h
    have hcv := RB.text hR (xor_by (dec_by (fun i _ => KS_by (fun i _ => bn_lt s i) i) (fun i _ => bn_lt t i) 10) (KS_by (fun i _ => bn_lt s i) 0))
    have HB := hid_in hB
    clear hB
    have hRl := hR.lt
    go_wp2_with fail
    go_ret
    exact ⟨rfl, HB.out⟩
  · refine wp_region_held_tail (S := fun w' => Below w.heap.size w w') (by kernel_rfl) (by dsimp only [List.dropLast]) (by exact rfl) (by kernel_rfl) ?_
    simp only [List.cons_append, List.nil_append]
    have H0 : Below w.heap.size w w.drew := (Below.refl _ _).drew
    refine wpAnyH_take (i := 0) (oi := { dst := some 4, op := Op.load 9 (Operand.tmp 0), type := 9, pos := "l6_aes.go:198", after := #[], guard := none }) (v := .string s) rfl (by kernel_rfl) (by kernel_rfl) (by kernel_rfl) (fun _ _ _ h => h) (Or.inl ⟨by rfl, ?_⟩) H0 ?_
    · intro w' hw
      have hc1 := (hw.cell (p := ⟨b, 0, none⟩) lb).trans hb
      go_simp
    try simp only [Act.put, List.setIfInBounds_toArray, List.set_cons_zero, List.set_cons_succ]
    refine wpAnyH_take (i := 2) (oi := { dst := some 6, op := Op.load 9 (Operand.tmp 1), type := 9, pos := "l6_aes.go:198", after := #[], guard := none }) (v := .string t) rfl (by kernel_rfl) (by kernel_rfl) (by kernel_rfl) (fun _ _ _ h => h) (Or.inl ⟨by rfl, ?_⟩) H0 ?_
    · intro w' hw
      have hc1 := (hw.cell (p := ⟨c, 0, none⟩) lc).trans hc
      go_simp
    try simp only [Act.put, List.setIfInBounds_toArray, List.set_cons_zero, List.set_cons_succ]
    refine wpAnyH_ready (rs := [1, 5]) (by kernel_rfl) (by simp) ?_
    refine AllReadyH.cons (o := { dst := some 5, op := Op.call { callee := Callee.value (Operand.func 34), args := #[Operand.tmp 4], argTypes := #[9] }, type := 45, pos := "l6_aes.go:198", after := #[{ on := 0, ground := Ground.data }], guard := none }) rfl (fun K' hK' => ?_) ?_
    · go_simp
      refine (cipherOf_ok s _ hs).mono ?_
      rintro e w47 ⟨gt, gk, cap, rfl, Tw47, Kw47, HB48'⟩
      have HB48 := H0.trans (HB48'.mono H0.size)
      refine hK'.out _ _ HB48 (fun _ => ?_)
      clear hK' K'
      try simp only [Act.put, List.setIfInBounds_toArray, List.set_cons_zero, List.set_cons_succ]
      refine wpAnyH_ready (rs := [3, 5]) (by kernel_rfl) (by simp) ?_
      refine AllReadyH.cons (o := { dst := some 7, op := Op.call { callee := Callee.value (Operand.func 36), args := #[Operand.tmp 6], argTypes := #[9] }, type := 41, pos := "l6_aes.go:198", after := #[{ on := 2, ground := Ground.data }, { on := 1, ground := Ground.chain }], guard := none }) rfl (fun K' hK' => ?_) ?_
      · go_simp
        refine (gridOf_ok t _ ht).mono ?_
        rintro e w49 ⟨rfl, HB50'⟩
        have HB50 := HB48.trans (HB50'.mono HB48.size)
        have Tw49 := RBlater Tw47 HB50'
        have Kw49 := Kw47.later HB50'
        refine hK'.out _ _ HB50 (fun _ => ?_)
        clear hK' K'
        try simp only [Act.put, List.setIfInBounds_toArray, List.set_cons_zero, List.set_cons_succ]
        refine wpAnyH_ready (rs := [4, 5]) (by kernel_rfl) (by simp) ?_
        refine AllReadyH.cons (o := { dst := some 8, op := Op.call { callee := Callee.value (Operand.func 39), args := #[Operand.tmp 5, Operand.tmp 7], argTypes := #[45, 41] }, type := 41, pos := "l6_aes.go:198", after := #[{ on := 1, ground := Ground.data }, { on := 3, ground := Ground.data }, { on := 3, ground := Ground.chain }], guard := none }) rfl (fun K' hK' => ?_) ?_
        · go_simp
          refine (get_any gt gk cap (KS (bn s)) (bn t) _ Tw49 Kw49 (fun i _ => bn_lt t i) (fun i _ => KS_by (fun i _ => bn_lt s i) i)).mono ?_
          rintro e w51 ⟨rfl, HB52'⟩
          have HB52 := HB50.trans (HB52'.mono HB50.size)
          refine hK'.out _ _ HB52 (fun _ => ?_)
          clear hK' K'
          try simp only [Act.put, List.setIfInBounds_toArray, List.set_cons_zero, List.set_cons_succ]
          refine wpAnyH_ready (rs := [5]) (by kernel_rfl) (by simp) ?_
          refine AllReadyH.cons (o := { dst := some 3, op := Op.alloc 41, type := 0, pos := "l6_aes.go:198", after := #[], guard := none }) rfl (fun K' hK' => ?_) AllReadyH.nil
          go_simp
          have HB54 := HB52.alloc HB52.size (.cells #[.int .u8 0, .int .u8 0, .int .u8 0, .int .u8 0, .int .u8 0, .int .u8 0, .int .u8 0, .int .u8 0, .int .u8 0, .int .u8 0, .int .u8 0, .int .u8 0, .int .u8 0, .int .u8 0, .int .u8 0, .int .u8 0] 41)
          have Rw53 : RB (w51.alloc (.cells #[.int .u8 0, .int .u8 0, .int .u8 0, .int .u8 0, .int .u8 0, .int .u8 0, .int .u8 0, .int .u8 0, .int .u8 0, .int .u8 0, .int .u8 0, .int .u8 0, .int .u8 0, .int .u8 0, .int .u8 0, .int .u8 0] 41)) w51.heap.size 16 41 (fun _ => 0) := by
            rw [zeroG]; exact RB.new w51 16 _ _
          have Tw53 := RBlater Tw49 (below_box _ (.cells #[.int .u8 0, .int .u8 0, .int .u8 0, .int .u8 0, .int .u8 0, .int .u8 0, .int .u8 0, .int .u8 0, .int .u8 0, .int .u8 0, .int .u8 0, .int .u8 0, .int .u8 0, .int .u8 0, .int .u8 0, .int .u8 0] 41))
          have Kw53 := Kw49.later (below_box _ (.cells #[.int .u8 0, .int .u8 0, .int .u8 0, .int .u8 0, .int .u8 0, .int .u8 0, .int .u8 0, .int .u8 0, .int .u8 0, .int .u8 0, .int .u8 0, .int .u8 0, .int .u8 0, .int .u8 0, .int .u8 0, .int .u8 0] 41))
          refine hK'.out _ _ HB54 (fun _ => ?_)
          clear hK' K'
          try simp only [Act.put, List.setIfInBounds_toArray, List.set_cons_zero, List.set_cons_succ]
          refine wpAnyH_take (i := 6) (v := .bool true) rfl (by kernel_rfl) (by kernel_rfl) (by kernel_rfl) (fun _ _ _ h => h) (Or.inl ⟨by rfl, fun w _ => by unfold execOp; rfl⟩) HB54 ?_
          simp only [blanked, Act.put]
          refine wpAnyH_done (by kernel_rfl) ?_ _
          show wpList _ _ _ _ _ _
          refine wpList_store_row rfl 41 _ _ rfl _ _ rfl rfl 41 _ Rw53 sizeG rfl (rC_one _ _) ?_
          exact ⟨gt, gk, cap, _, rfl, setRow_at Rw53, Below_setRow HB54 (HB52.size)⟩
        refine AllReadyH.cons (o := { dst := some 3, op := Op.alloc 41, type := 0, pos := "l6_aes.go:198", after := #[], guard := none }) rfl (fun K' hK' => ?_) AllReadyH.nil
        go_simp
        have HB56 := HB50.alloc HB50.size (.cells #[.int .u8 0, .int .u8 0, .int .u8 0, .int .u8 0, .int .u8 0, .int .u8 0, .int .u8 0, .int .u8 0, .int .u8 0, .int .u8 0, .int .u8 0, .int .u8 0, .int .u8 0, .int .u8 0, .int .u8 0, .int .u8 0] 41)
        have Rw55 : RB (w49.alloc (.cells #[.int .u8 0, .int .u8 0, .int .u8 0, .int .u8 0, .int .u8 0, .int .u8 0, .int .u8 0, .int .u8 0, .int .u8 0, .int .u8 0, .int .u8 0, .int .u8 0, .int .u8 0, .int .u8 0, .int .u8 0, .int .u8 0] 41)) w49.heap.size 16 41 (fun _ => 0) := by
          rw [zeroG]; exact RB.new w49 16 _ _
        have Tw55 := RBlater Tw49 (below_box _ (.cells #[.int .u8 0, .int .u8 0, .int .u8 0, .int .u8 0, .int .u8 0, .int .u8 0, .int .u8 0, .int .u8 0, .int .u8 0, .int .u8 0, .int .u8 0, .int .u8 0, .int .u8 0, .int .u8 0, .int .u8 0, .int .u8 0] 41))
        have Kw55 := Kw49.later (below_box _ (.cells #[.int .u8 0, .int .u8 0, .int .u8 0, .int .u8 0, .int .u8 0, .int .u8 0, .int .u8 0, .int .u8 0, .int .u8 0, .int .u8 0, .int .u8 0, .int .u8 0, .int .u8 0, .int .u8 0, .int .u8 0, .int .u8 0] 41))
        refine hK'.out _ _ HB56 (fun _ => ?_)
        clear hK' K'
        try simp only [Act.put, List.setIfInBounds_toArray, List.set_cons_zero, List.set_cons_succ]
        refine wpAnyH_ready (rs := [4]) (by kernel_rfl) (by simp) ?_
        refine AllReadyH.cons (o := { dst := some 8, op := Op.call { callee := Callee.value (Operand.func 39), args := #[Operand.tmp 5, Operand.tmp 7], argTypes := #[45, 41] }, type := 41, pos := "l6_aes.go:198", after := #[{ on := 1, ground := Ground.data }, { on := 3, ground := Ground.data }, { on := 3, ground := Ground.chain }], guard := none }) rfl (fun K' hK' => ?_) AllReadyH.nil
        go_simp
        refine (get_any gt gk cap (KS (bn s)) (bn t) _ Tw55 Kw55 (fun i _ => bn_lt t i) (fun i _ => KS_by (fun i _ => bn_lt s i) i)).mono ?_
        rintro e w57 ⟨rfl, HB58'⟩
        have HB58 := HB56.trans (HB58'.mono HB56.size)
        have Rw57 := RBlater Rw55 HB58'
        refine hK'.out _ _ HB58 (fun _ => ?_)
        clear hK' K'
        try simp only [Act.put, List.setIfInBounds_toArray, List.set_cons_zero, List.set_cons_succ]
        refine wpAnyH_take (i := 6) (v := .bool true) rfl (by kernel_rfl) (by kernel_rfl) (by kernel_rfl) (fun _ _ _ h => h) (Or.inl ⟨by rfl, fun w _ => by unfold execOp; rfl⟩) HB58 ?_
        simp only [blanked, Act.put]
        refine wpAnyH_done (by kernel_rfl) ?_ _
        show wpList _ _ _ _ _ _
        refine wpList_store_row rfl 41 _ _ rfl _ _ rfl rfl 41 _ Rw57 sizeG rfl (rC_one _ _) ?_
        exact ⟨gt, gk, cap, _, rfl, setRow_at Rw57, Below_setRow HB58 (HB50.size)⟩
      refine AllReadyH.cons (o := { dst := some 3, op := Op.alloc 41, type := 0, pos := "l6_aes.go:198", after := #[], guard := none }) rfl (fun K' hK' => ?_) AllReadyH.nil
      go_simp
      have HB60 := HB48.alloc HB48.size (.cells #[.int .u8 0, .int .u8 0, .int .u8 0, .int .u8 0, .int .u8 0, .int .u8 0, .int .u8 0, .int .u8 0, .int .u8 0, .int .u8 0, .int .u8 0, .int .u8 0, .int .u8 0, .int .u8 0, .int .u8 0, .int .u8 0] 41)
      have Rw59 : RB (w47.alloc (.cells #[.int .u8 0, .int .u8 0, .int .u8 0, .int .u8 0, .int .u8 0, .int .u8 0, .int .u8 0, .int .u8 0, .int .u8 0, .int .u8 0, .int .u8 0, .int .u8 0, .int .u8 0, .int .u8 0, .int .u8 0, .int .u8 0] 41)) w47.heap.size 16 41 (fun _ => 0) := by
        rw [zeroG]; exact RB.new w47 16 _ _
      have Tw59 := RBlater Tw47 (below_box _ (.cells #[.int .u8 0, .int .u8 0, .int .u8 0, .int .u8 0, .int .u8 0, .int .u8 0, .int .u8 0, .int .u8 0, .int .u8 0, .int .u8 0, .int .u8 0, .int .u8 0, .int .u8 0, .int .u8 0, .int .u8 0, .int .u8 0] 41))
      have Kw59 := Kw47.later (below_box _ (.cells #[.int .u8 0, .int .u8 0, .int .u8 0, .int .u8 0, .int .u8 0, .int .u8 0, .int .u8 0, .int .u8 0, .int .u8 0, .int .u8 0, .int .u8 0, .int .u8 0, .int .u8 0, .int .u8 0, .int .u8 0, .int .u8 0] 41))
      refine hK'.out _ _ HB60 (fun _ => ?_)
      clear hK' K'
      try simp only [Act.put, List.setIfInBounds_toArray, List.set_cons_zero, List.set_cons_succ]
      refine wpAnyH_ready (rs := [3]) (by kernel_rfl) (by simp) ?_
      refine AllReadyH.cons (o := { dst := some 7, op := Op.call { callee := Callee.value (Operand.func 36), args := #[Operand.tmp 6], argTypes := #[9] }, type := 41, pos := "l6_aes.go:198", after := #[{ on := 2, ground := Ground.data }, { on := 1, ground := Ground.chain }], guard := none }) rfl (fun K' hK' => ?_) AllReadyH.nil
      go_simp
      refine (gridOf_ok t _ ht).mono ?_
      rintro e w61 ⟨rfl, HB62'⟩
      have HB62 := HB60.trans (HB62'.mono HB60.size)
      have Tw61 := RBlater Tw59 HB62'
      have Kw61 := Kw59.later HB62'
      have Rw61 := RBlater Rw59 HB62'
      refine hK'.out _ _ HB62 (fun _ => ?_)
      clear hK' K'
      try simp only [Act.put, List.setIfInBounds_toArray, List.set_cons_zero, List.set_cons_succ]
      refine wpAnyH_ready (rs := [4]) (by kernel_rfl) (by simp) ?_
      refine AllReadyH.cons (o := { dst := some 8, op := Op.call { callee := Callee.value (Operand.func 39), args := #[Operand.tmp 5, Operand.tmp 7], argTypes := #[45, 41] }, type := 41, pos := "l6_aes.go:198", after := #[{ on := 1, ground := Ground.data }, { on := 3, ground := Ground.data }, { on := 3, ground := Ground.chain }], guard := none }) rfl (fun K' hK' => ?_) AllReadyH.nil
      go_simp
      refine (get_any gt gk cap (KS (bn s)) (bn t) _ Tw61 Kw61 (fun i _ => bn_lt t i) (fun i _ => KS_by (fun i _ => bn_lt s i) i)).mono ?_
      rintro e w63 ⟨rfl, HB64'⟩
      have HB64 := HB62.trans (HB64'.mono HB62.size)
      have Rw63 := RBlater Rw61 HB64'
      refine hK'.out _ _ HB64 (fun _ => ?_)
      clear hK' K'
      try simp only [Act.put, List.setIfInBounds_toArray, List.set_cons_zero, List.set_cons_succ]
      refine wpAnyH_take (i := 6) (v := .bool true) rfl (by kernel_rfl) (by kernel_rfl) (by kernel_rfl) (fun _ _ _ h => h) (Or.inl ⟨by rfl, fun w _ => by unfold execOp; rfl⟩) HB64 ?_
      simp only [blanked, Act.put]
      refine wpAnyH_done (by kernel_rfl) ?_ _
      show wpList _ _ _ _ _ _
      refine wpList_store_row rfl 41 _ _ rfl _ _ rfl rfl 41 _ Rw63 sizeG rfl (rC_one _ _) ?_
      exact ⟨gt, gk, cap, _, rfl, setRow_at Rw63, Below_setRow HB64 (HB48.size)⟩
    refine AllReadyH.cons (o := { dst := some 3, op := Op.alloc 41, type := 0, pos := "l6_aes.go:198", after := #[], guard := none }) rfl (fun K' hK' => ?_) AllReadyH.nil
    go_simp
    have HB66 := H0.alloc H0.size (.cells #[.int .u8 0, .int .u8 0, .int .u8 0, .int .u8 0, .int .u8 0, .int .u8 0, .int .u8 0, .int .u8 0, .int .u8 0, .int .u8 0, .int .u8 0, .int .u8 0, .int .u8 0, .int .u8 0, .int .u8 0, .int .u8 0] 41)
    have Rw65 : RB (w.drew.alloc (.cells #[.int .u8 0, .int .u8 0, .int .u8 0, .int .u8 0, .int .u8 0, .int .u8 0, .int .u8 0, .int .u8 0, .int .u8 0, .int .u8 0, .int .u8 0, .int .u8 0, .int .u8 0, .int .u8 0, .int .u8 0, .int .u8 0] 41)) w.drew.heap.size 16 41 (fun _ => 0) := by
      rw [zeroG]; exact RB.new w.drew 16 _ _
    refine hK'.out _ _ HB66 (fun _ => ?_)
    clear hK' K'
    try simp only [Act.put, List.setIfInBounds_toArray, List.set_cons_zero, List.set_cons_succ]
    refine wpAnyH_ready (rs := [1]) (by kernel_rfl) (by simp) ?_
    refine AllReadyH.cons (o := { dst := some 5, op := Op.call { callee := Callee.value (Operand.func 34), args := #[Operand.tmp 4], argTypes := #[9] }, type := 45, pos := "l6_aes.go:198", after := #[{ on := 0, ground := Ground.data }], guard := none }) rfl (fun K' hK' => ?_) AllReadyH.nil
    go_simp
    refine (cipherOf_ok s _ hs).mono ?_
    rintro e w67 ⟨gt, gk, cap, rfl, Tw67, Kw67, HB68'⟩
    have HB68 := HB66.trans (HB68'.mono HB66.size)
    have Rw67 := RBlater Rw65 HB68'
    refine hK'.out _ _ HB68 (fun _ => ?_)
    clear hK' K'
    try simp only [Act.put, List.setIfInBounds_toArray, List.set_cons_zero, List.set_cons_succ]
    refine wpAnyH_ready (rs := [3]) (by kernel_rfl) (by simp) ?_
    refine AllReadyH.cons (o := { dst := some 7, op := Op.call { callee := Callee.value (Operand.func 36), args := #[Operand.tmp 6], argTypes := #[9] }, type := 41, pos := "l6_aes.go:198", after := #[{ on := 2, ground := Ground.data }, { on := 1, ground := Ground.chain }], guard := none }) rfl (fun K' hK' => ?_) AllReadyH.nil
    go_simp
    refine (gridOf_ok t _ ht).mono ?_
    rintro e w69 ⟨rfl, HB70'⟩
    have HB70 := HB68.trans (HB70'.mono HB68.size)
    have Tw69 := RBlater Tw67 HB70'
    have Kw69 := Kw67.later HB70'
    have Rw69 := RBlater Rw67 HB70'
    refine hK'.out _ _ HB70 (fun _ => ?_)
    clear hK' K'
    try simp only [Act.put, List.setIfInBounds_toArray, List.set_cons_zero, List.set_cons_succ]
    refine wpAnyH_ready (rs := [4]) (by kernel_rfl) (by simp) ?_
    refine AllReadyH.cons (o := { dst := some 8, op := Op.call { callee := Callee.value (Operand.func 39), args := #[Operand.tmp 5, Operand.tmp 7], argTypes := #[45, 41] }, type := 41, pos := "l6_aes.go:198", after := #[{ on := 1, ground := Ground.data }, { on := 3, ground := Ground.data }, { on := 3, ground := Ground.chain }], guard := none }) rfl (fun K' hK' => ?_) AllReadyH.nil
    go_simp
    refine (get_any gt gk cap (KS (bn s)) (bn t) _ Tw69 Kw69 (fun i _ => bn_lt t i) (fun i _ => KS_by (fun i _ => bn_lt s i) i)).mono ?_
    rintro e w71 ⟨rfl, HB72'⟩
    have HB72 := HB70.trans (HB72'.mono HB70.size)
    have Rw71 := RBlater Rw69 HB72'
    refine hK'.out _ _ HB72 (fun _ => ?_)
    clear hK' K'
    try simp only [Act.put, List.setIfInBounds_toArray, List.set_cons_zero, List.set_cons_succ]
    refine wpAnyH_take (i := 6) (v := .bool true) rfl (by kernel_rfl) (by kernel_rfl) (by kernel_rfl) (fun _ _ _ h => h) (Or.inl ⟨by rfl, fun w _ => by unfold execOp; rfl⟩) HB72 ?_
    simp only [blanked, Act.put]
    refine wpAnyH_done (by kernel_rfl) ?_ _
    show wpList _ _ _ _ _ _
    refine wpList_store_row rfl 41 _ _ rfl _ _ rfl rfl 41 _ Rw71 sizeG rfl (rC_one _ _) ?_
    exact ⟨gt, gk, cap, _, rfl, setRow_at Rw71, Below_setRow HB72 (H0.size)⟩
set_option maxHeartbeats 2000000 in
set_option maxRecDepth 100000 in
theorem get1_no1 (s t : ByteArray) (b c : Nat) (w : World) (hs : s.size ≠ 16) (hs1 : s.size ≤ 1048576) (hb : w.cell? ⟨b, 0, none⟩ = some (.string s)) (hc : w.cell? ⟨c, 0, none⟩ = some (.string t)) :
    Calls Try.prog 38 #[.pointer (some ⟨b, 0, none⟩), .pointer (some ⟨c, 0, none⟩)] w fun e w' => PanP w e w' := by
  have lb : b < w.heap.size := lt_of_cell hb
  have lc : c < w.heap.size := lt_of_cell hc
  go_enter Try.func38, Try.ntmps38
  go_wp2_with fail
  refine Code.wp_mono (Q := fun e a' w' => match e with | .panic c => (∃ u pv, c = [{ v := .iface u pv, recovered := false }]) ∧ Below w.heap.size w w' ∧ a'.defers = [] | _ => False) ?_ ?_
  · intro e a' w' h
    cases e <;> first | exact h.elim | skip
    obtain ⟨⟨u, pv, rfl⟩, hB, hD⟩ := h
    have HB := hid_in hB
    clear hB
    go_wp2_with fail
    unfold bodyPost
    exact ⟨hD, ⟨_, _, rfl⟩, HB.out⟩
  · refine wp_region_held_tail (S := fun w' => Below w.heap.size w w') (by kernel_rfl) (by dsimp only [List.dropLast]) (by exact rfl) (by kernel_rfl) ?_
    simp only [List.cons_append, List.nil_append]
    have H0 : Below w.heap.size w w.drew := (Below.refl _ _).drew
    refine wpAnyH_take (i := 0) (oi := { dst := some 4, op := Op.load 9 (Operand.tmp 0), type := 9, pos := "l6_aes.go:198", after := #[], guard := none }) (v := .string s) rfl (by kernel_rfl) (by kernel_rfl) (by kernel_rfl) (fun _ _ _ h => h) (Or.inl ⟨by rfl, ?_⟩) H0 ?_
    · intro w' hw
      have hc1 := (hw.cell (p := ⟨b, 0, none⟩) lb).trans hb
      go_simp
    try simp only [Act.put, List.setIfInBounds_toArray, List.set_cons_zero, List.set_cons_succ]
    refine wpAnyH_take (i := 2) (oi := { dst := some 6, op := Op.load 9 (Operand.tmp 1), type := 9, pos := "l6_aes.go:198", after := #[], guard := none }) (v := .string t) rfl (by kernel_rfl) (by kernel_rfl) (by kernel_rfl) (fun _ _ _ h => h) (Or.inl ⟨by rfl, ?_⟩) H0 ?_
    · intro w' hw
      have hc1 := (hw.cell (p := ⟨c, 0, none⟩) lc).trans hc
      go_simp
    try simp only [Act.put, List.setIfInBounds_toArray, List.set_cons_zero, List.set_cons_succ]
    refine wpAnyH_ready (rs := [1, 5]) (by kernel_rfl) (by simp) ?_
    refine AllReadyH.cons (o := { dst := some 5, op := Op.call { callee := Callee.value (Operand.func 34), args := #[Operand.tmp 4], argTypes := #[9] }, type := 45, pos := "l6_aes.go:198", after := #[{ on := 0, ground := Ground.data }], guard := none }) rfl (fun K' hK' => ?_) ?_
    · go_simp
      refine (cipherOf_no s _ hs hs1).mono ?_
      rintro e w73 ⟨⟨u, pv, rfl⟩, HB74⟩
      exact ⟨⟨u, pv, rfl⟩, H0.trans (HB74.mono H0.size), rfl⟩
    refine AllReadyH.cons (o := { dst := some 3, op := Op.alloc 41, type := 0, pos := "l6_aes.go:198", after := #[], guard := none }) rfl (fun K' hK' => ?_) AllReadyH.nil
    go_simp
    have HB76 := H0.alloc H0.size (.cells #[.int .u8 0, .int .u8 0, .int .u8 0, .int .u8 0, .int .u8 0, .int .u8 0, .int .u8 0, .int .u8 0, .int .u8 0, .int .u8 0, .int .u8 0, .int .u8 0, .int .u8 0, .int .u8 0, .int .u8 0, .int .u8 0] 41)
    have Rw75 : RB (w.drew.alloc (.cells #[.int .u8 0, .int .u8 0, .int .u8 0, .int .u8 0, .int .u8 0, .int .u8 0, .int .u8 0, .int .u8 0, .int .u8 0, .int .u8 0, .int .u8 0, .int .u8 0, .int .u8 0, .int .u8 0, .int .u8 0, .int .u8 0] 41)) w.drew.heap.size 16 41 (fun _ => 0) := by
      rw [zeroG]; exact RB.new w.drew 16 _ _
    refine hK'.out _ _ HB76 (fun _ => ?_)
    clear hK' K'
    try simp only [Act.put, List.setIfInBounds_toArray, List.set_cons_zero, List.set_cons_succ]
    refine wpAnyH_ready (rs := [1]) (by kernel_rfl) (by simp) ?_
    refine AllReadyH.cons (o := { dst := some 5, op := Op.call { callee := Callee.value (Operand.func 34), args := #[Operand.tmp 4], argTypes := #[9] }, type := 45, pos := "l6_aes.go:198", after := #[{ on := 0, ground := Ground.data }], guard := none }) rfl (fun K' hK' => ?_) AllReadyH.nil
    go_simp
    refine (cipherOf_no s _ hs hs1).mono ?_
    rintro e w77 ⟨⟨u, pv, rfl⟩, HB78⟩
    exact ⟨⟨u, pv, rfl⟩, HB76.trans (HB78.mono HB76.size), rfl⟩
set_option maxHeartbeats 2000000 in
set_option maxRecDepth 100000 in
theorem get1_no2 (s t : ByteArray) (b c : Nat) (w : World) (hs : s.size = 16) (ht : t.size ≠ 16) (ht1 : t.size ≤ 1048576) (hb : w.cell? ⟨b, 0, none⟩ = some (.string s)) (hc : w.cell? ⟨c, 0, none⟩ = some (.string t)) :
    Calls Try.prog 38 #[.pointer (some ⟨b, 0, none⟩), .pointer (some ⟨c, 0, none⟩)] w fun e w' => PanP w e w' := by
  have lb : b < w.heap.size := lt_of_cell hb
  have lc : c < w.heap.size := lt_of_cell hc
  go_enter Try.func38, Try.ntmps38
  go_wp2_with fail
  refine Code.wp_mono (Q := fun e a' w' => match e with | .panic c => (∃ u pv, c = [{ v := .iface u pv, recovered := false }]) ∧ Below w.heap.size w w' ∧ a'.defers = [] | _ => False) ?_ ?_
  · intro e a' w' h
    cases e <;> first | exact h.elim | skip
    obtain ⟨⟨u, pv, rfl⟩, hB, hD⟩ := h
    have HB := hid_in hB
    clear hB
    go_wp2_with fail
    unfold bodyPost
    exact ⟨hD, ⟨_, _, rfl⟩, HB.out⟩
  · refine wp_region_held_tail (S := fun w' => Below w.heap.size w w') (by kernel_rfl) (by dsimp only [List.dropLast]) (by exact rfl) (by kernel_rfl) ?_
    simp only [List.cons_append, List.nil_append]
    have H0 : Below w.heap.size w w.drew := (Below.refl _ _).drew
    refine wpAnyH_take (i := 0) (oi := { dst := some 4, op := Op.load 9 (Operand.tmp 0), type := 9, pos := "l6_aes.go:198", after := #[], guard := none }) (v := .string s) rfl (by kernel_rfl) (by kernel_rfl) (by kernel_rfl) (fun _ _ _ h => h) (Or.inl ⟨by rfl, ?_⟩) H0 ?_
    · intro w' hw
      have hc1 := (hw.cell (p := ⟨b, 0, none⟩) lb).trans hb
      go_simp
    try simp only [Act.put, List.setIfInBounds_toArray, List.set_cons_zero, List.set_cons_succ]
    refine wpAnyH_take (i := 2) (oi := { dst := some 6, op := Op.load 9 (Operand.tmp 1), type := 9, pos := "l6_aes.go:198", after := #[], guard := none }) (v := .string t) rfl (by kernel_rfl) (by kernel_rfl) (by kernel_rfl) (fun _ _ _ h => h) (Or.inl ⟨by rfl, ?_⟩) H0 ?_
    · intro w' hw
      have hc1 := (hw.cell (p := ⟨c, 0, none⟩) lc).trans hc
      go_simp
    try simp only [Act.put, List.setIfInBounds_toArray, List.set_cons_zero, List.set_cons_succ]
    refine wpAnyH_ready (rs := [1, 5]) (by kernel_rfl) (by simp) ?_
    refine AllReadyH.cons (o := { dst := some 5, op := Op.call { callee := Callee.value (Operand.func 34), args := #[Operand.tmp 4], argTypes := #[9] }, type := 45, pos := "l6_aes.go:198", after := #[{ on := 0, ground := Ground.data }], guard := none }) rfl (fun K' hK' => ?_) ?_
    · go_simp
      refine (cipherOf_ok s _ hs).mono ?_
      rintro e w79 ⟨gt, gk, cap, rfl, Tw79, Kw79, HB80'⟩
      have HB80 := H0.trans (HB80'.mono H0.size)
      refine hK'.out _ _ HB80 (fun _ => ?_)
      clear hK' K'
      try simp only [Act.put, List.setIfInBounds_toArray, List.set_cons_zero, List.set_cons_succ]
      refine wpAnyH_ready (rs := [3, 5]) (by kernel_rfl) (by simp) ?_
      refine AllReadyH.cons (o := { dst := some 7, op := Op.call { callee := Callee.value (Operand.func 36), args := #[Operand.tmp 6], argTypes := #[9] }, type := 41, pos := "l6_aes.go:198", after := #[{ on := 2, ground := Ground.data }, { on := 1, ground := Ground.chain }], guard := none }) rfl (fun K' hK' => ?_) ?_
      · go_simp
        refine (gridOf_no t _ ht ht1).mono ?_
        rintro e w81 ⟨⟨u, pv, rfl⟩, HB82⟩
        exact ⟨⟨u, pv, rfl⟩, HB80.trans (HB82.mono HB80.size), rfl⟩
      refine AllReadyH.cons (o := { dst := some 3, op := Op.alloc 41, type := 0, pos := "l6_aes.go:198", after := #[], guard := none }) rfl (fun K' hK' => ?_) AllReadyH.nil
      go_simp
      have HB84 := HB80.alloc HB80.size (.cells #[.int .u8 0, .int .u8 0, .int .u8 0, .int .u8 0, .int .u8 0, .int .u8 0, .int .u8 0, .int .u8 0, .int .u8 0, .int .u8 0, .int .u8 0, .int .u8 0, .int .u8 0, .int .u8 0, .int .u8 0, .int .u8 0] 41)
      have Rw83 : RB (w79.alloc (.cells #[.int .u8 0, .int .u8 0, .int .u8 0, .int .u8 0, .int .u8 0, .int .u8 0, .int .u8 0, .int .u8 0, .int .u8 0, .int .u8 0, .int .u8 0, .int .u8 0, .int .u8 0, .int .u8 0, .int .u8 0, .int .u8 0] 41)) w79.heap.size 16 41 (fun _ => 0) := by
        rw [zeroG]; exact RB.new w79 16 _ _
      have Tw83 := RBlater Tw79 (below_box _ (.cells #[.int .u8 0, .int .u8 0, .int .u8 0, .int .u8 0, .int .u8 0, .int .u8 0, .int .u8 0, .int .u8 0, .int .u8 0, .int .u8 0, .int .u8 0, .int .u8 0, .int .u8 0, .int .u8 0, .int .u8 0, .int .u8 0] 41))
      have Kw83 := Kw79.later (below_box _ (.cells #[.int .u8 0, .int .u8 0, .int .u8 0, .int .u8 0, .int .u8 0, .int .u8 0, .int .u8 0, .int .u8 0, .int .u8 0, .int .u8 0, .int .u8 0, .int .u8 0, .int .u8 0, .int .u8 0, .int .u8 0, .int .u8 0] 41))
      refine hK'.out _ _ HB84 (fun _ => ?_)
      clear hK' K'
      try simp only [Act.put, List.setIfInBounds_toArray, List.set_cons_zero, List.set_cons_succ]
      refine wpAnyH_ready (rs := [3]) (by kernel_rfl) (by simp) ?_
      refine AllReadyH.cons (o := { dst := some 7, op := Op.call { callee := Callee.value (Operand.func 36), args := #[Operand.tmp 6], argTypes := #[9] }, type := 41, pos := "l6_aes.go:198", after := #[{ on := 2, ground := Ground.data }, { on := 1, ground := Ground.chain }], guard := none }) rfl (fun K' hK' => ?_) AllReadyH.nil
      go_simp
      refine (gridOf_no t _ ht ht1).mono ?_
      rintro e w85 ⟨⟨u, pv, rfl⟩, HB86⟩
      exact ⟨⟨u, pv, rfl⟩, HB84.trans (HB86.mono HB84.size), rfl⟩
    refine AllReadyH.cons (o := { dst := some 3, op := Op.alloc 41, type := 0, pos := "l6_aes.go:198", after := #[], guard := none }) rfl (fun K' hK' => ?_) AllReadyH.nil
    go_simp
    have HB88 := H0.alloc H0.size (.cells #[.int .u8 0, .int .u8 0, .int .u8 0, .int .u8 0, .int .u8 0, .int .u8 0, .int .u8 0, .int .u8 0, .int .u8 0, .int .u8 0, .int .u8 0, .int .u8 0, .int .u8 0, .int .u8 0, .int .u8 0, .int .u8 0] 41)
    have Rw87 : RB (w.drew.alloc (.cells #[.int .u8 0, .int .u8 0, .int .u8 0, .int .u8 0, .int .u8 0, .int .u8 0, .int .u8 0, .int .u8 0, .int .u8 0, .int .u8 0, .int .u8 0, .int .u8 0, .int .u8 0, .int .u8 0, .int .u8 0, .int .u8 0] 41)) w.drew.heap.size 16 41 (fun _ => 0) := by
      rw [zeroG]; exact RB.new w.drew 16 _ _
    refine hK'.out _ _ HB88 (fun _ => ?_)
    clear hK' K'
    try simp only [Act.put, List.setIfInBounds_toArray, List.set_cons_zero, List.set_cons_succ]
    refine wpAnyH_ready (rs := [1]) (by kernel_rfl) (by simp) ?_
    refine AllReadyH.cons (o := { dst := some 5, op := Op.call { callee := Callee.value (Operand.func 34), args := #[Operand.tmp 4], argTypes := #[9] }, type := 45, pos := "l6_aes.go:198", after := #[{ on := 0, ground := Ground.data }], guard := none }) rfl (fun K' hK' => ?_) AllReadyH.nil
    go_simp
    refine (cipherOf_ok s _ hs).mono ?_
    rintro e w89 ⟨gt, gk, cap, rfl, Tw89, Kw89, HB90'⟩
    have HB90 := HB88.trans (HB90'.mono HB88.size)
    have Rw89 := RBlater Rw87 HB90'
    refine hK'.out _ _ HB90 (fun _ => ?_)
    clear hK' K'
    try simp only [Act.put, List.setIfInBounds_toArray, List.set_cons_zero, List.set_cons_succ]
    refine wpAnyH_ready (rs := [3]) (by kernel_rfl) (by simp) ?_
    refine AllReadyH.cons (o := { dst := some 7, op := Op.call { callee := Callee.value (Operand.func 36), args := #[Operand.tmp 6], argTypes := #[9] }, type := 41, pos := "l6_aes.go:198", after := #[{ on := 2, ground := Ground.data }, { on := 1, ground := Ground.chain }], guard := none }) rfl (fun K' hK' => ?_) AllReadyH.nil
    go_simp
    refine (gridOf_no t _ ht ht1).mono ?_
    rintro e w91 ⟨⟨u, pv, rfl⟩, HB92⟩
    exact ⟨⟨u, pv, rfl⟩, HB90.trans (HB92.mono HB90.size), rfl⟩
end Go.Proofs.Ytdbobeojbdcmdaa
