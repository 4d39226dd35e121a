/- What is proved: the contracts of ChnC, one behind the other. The conditions stand at each theorem. -/
import Derived.Test.YtefmmopkikpnhaaGreatDoorGAeC
namespace Go.Proofs.YtefmmopkikpnhaaGreatDoor
open Go.RowKit Go.LatT Go.BlockM Go.PlainAid Go.OpnT Go.ApdG Go.BytM Go.AesM Go.RowQ Go.RegH
set_option linter.unusedVariables false
set_option linter.unusedSimpArgs false
set_option maxHeartbeats 4000000 in
set_option maxRecDepth 100000 in
theorem chp_no1 (s t u : ByteArray) (b c d : Nat) (w : World) (hs : s.size ≠ 16) (hs1 : s.size ≤ 1048576) (hb : w.cell? ⟨b, 0, none⟩ = some (.string s)) (hc : w.cell? ⟨c, 0, none⟩ = some (.string t)) (hd : w.cell? ⟨d, 0, none⟩ = some (.string u)) :
    Calls Tryz.prog 96 #[.pointer (some ⟨b, 0, none⟩), .pointer (some ⟨c, 0, none⟩), .pointer (some ⟨d, 0, none⟩)] w fun e w' => PanP w e w' := by
  have lb : b < w.heap.size := lt_of_cell hb
  have lc : c < w.heap.size := lt_of_cell hc
  have ld : d < w.heap.size := lt_of_cell hd
  go_enter Tryz.func96, Tryz.ntmps96
  go_wp2_with fail
  refine Code.wp_mono (Q := fun e a' w' => match e with | .panic c => (∃ u pv, c = [{ v := .iface u pv, recovered := false }]) ∧ Below w.heap.size w w' ∧ a'.defers = [] | _ => False) ?_ ?_
  · intro e a' w' h
    cases e <;> first | exact h.elim | skip
    obtain ⟨⟨u0, pv, rfl⟩, hB, hD⟩ := h
    have HB := hid_in hB
    clear hB
    go_wp2_with fail
    unfold bodyPost
    exact ⟨hD, ⟨_, _, rfl⟩, HB.out⟩
  · have H0 : Below w.heap.size w w.drew := (Below.refl _ _).drew
    refine wp_region_held_drew (S := fun w' => Below w.heap.size w w') (by kernel_rfl) H0 (fun _ => ?_)
    refine wpAnyH_take (i := 0) (oi := { dst := some 9, op := Op.load 9 (Operand.tmp 0), type := 9, pos := "l6_aes.go:213", after := #[], guard := none }) (v := .string s) rfl (by kernel_rfl) (by kernel_rfl) (by kernel_rfl) (fun _ _ _ h => h) (Or.inl ⟨by rfl, ?_⟩) H0 ?_
    · intro w' hw
      have hc1 := (hw.cell (p := ⟨b, 0, none⟩) lb).trans hb
      go_simp
    try simp only [Act.put, List.setIfInBounds_toArray, List.set_cons_zero, List.set_cons_succ]
    refine wpAnyH_take (i := 2) (oi := { dst := some 11, op := Op.load 9 (Operand.tmp 1), type := 9, pos := "l6_aes.go:213", after := #[], guard := none }) (v := .string t) rfl (by kernel_rfl) (by kernel_rfl) (by kernel_rfl) (fun _ _ _ h => h) (Or.inl ⟨by rfl, ?_⟩) H0 ?_
    · intro w' hw
      have hc1 := (hw.cell (p := ⟨c, 0, none⟩) lc).trans hc
      go_simp
    try simp only [Act.put, List.setIfInBounds_toArray, List.set_cons_zero, List.set_cons_succ]
    refine wpAnyH_take (i := 4) (oi := { dst := some 13, op := Op.load 9 (Operand.tmp 2), type := 9, pos := "l6_aes.go:213", after := #[], guard := none }) (v := .string u) rfl (by kernel_rfl) (by kernel_rfl) (by kernel_rfl) (fun _ _ _ h => h) (Or.inl ⟨by rfl, ?_⟩) H0 ?_
    · intro w' hw
      have hc1 := (hw.cell (p := ⟨d, 0, none⟩) ld).trans hd
      go_simp
    try simp only [Act.put, List.setIfInBounds_toArray, List.set_cons_zero, List.set_cons_succ]
    refine wpAnyH_ready (rs := [1, 6, 7]) (by kernel_rfl) (by simp) ?_
    refine AllReadyH.cons (o := { dst := some 10, op := Op.call { callee := Callee.value (Operand.func 97), args := #[Operand.tmp 9], argTypes := #[9] }, type := 116, pos := "l6_aes.go:213", after := #[{ on := 0, ground := Ground.data }], guard := none }) rfl (fun K' hK' => ?_) ?_
    · go_simp
      refine (cipherOf_no s _ hs hs1).mono ?_
      rintro e w1 ⟨⟨u0, pv, rfl⟩, HB2⟩
      first | exact ⟨⟨_, _, rfl⟩, H0.trans (HB2.mono H0.size)⟩ | exact ⟨⟨_, _, rfl⟩, H0.trans (HB2.mono H0.size), rfl⟩ | exact ⟨H0.trans (HB2.mono H0.size), rfl⟩ | exact H0.trans (HB2.mono H0.size)
    refine AllReadyH.cons (o := { dst := some 4, op := Op.alloc 116, type := 0, pos := "l6_aes.go:213", after := #[], guard := none }) rfl (fun K' hK' => ?_) ?_
    · go_simp
      have HB4 := H0.alloc H0.size (.cells #[.pointer none, .slice none 0 0] 116)
      have cBx3 := H0.size
      have Zx3 := CZ.new w.drew
      refine hK'.out _ _ HB4 (fun _ => ?_)
      clear hK' K'
      try simp only [Act.put, List.setIfInBounds_toArray, List.set_cons_zero, List.set_cons_succ]
      refine wpAnyH_ready (rs := [1, 7]) (by kernel_rfl) (by simp) ?_
      refine AllReadyH.cons (o := { dst := some 10, op := Op.call { callee := Callee.value (Operand.func 97), args := #[Operand.tmp 9], argTypes := #[9] }, type := 116, pos := "l6_aes.go:213", after := #[{ on := 0, ground := Ground.data }], guard := none }) rfl (fun K' hK' => ?_) ?_
      · go_simp
        refine (cipherOf_no s _ hs hs1).mono ?_
        rintro e w5 ⟨⟨u0, pv, rfl⟩, HB6⟩
        first | exact ⟨⟨_, _, rfl⟩, HB4.trans (HB6.mono HB4.size)⟩ | exact ⟨⟨_, _, rfl⟩, HB4.trans (HB6.mono HB4.size), rfl⟩ | exact ⟨HB4.trans (HB6.mono HB4.size), rfl⟩ | exact HB4.trans (HB6.mono HB4.size)
      refine AllReadyH.cons (o := { dst := some 5, op := Op.alloc 119, type := 0, pos := "l6_aes.go:213", after := #[], guard := none }) rfl (fun K' hK' => ?_) AllReadyH.nil
      go_simp
      have HB8 := HB4.alloc HB4.size (.cells #[.int .u8 0, .int .u8 0, .int .u8 0, .int .u8 0, .int .u8 0, .int .u8 0, .int .u8 0, .int .u8 0, .int .u8 0, .int .u8 0, .int .u8 0, .int .u8 0, .int .u8 0, .int .u8 0, .int .u8 0, .int .u8 0] 119)
      have aBx7 := HB4.size
      have Zx7 := Zx3.later (below_box _ (.cells #[.int .u8 0, .int .u8 0, .int .u8 0, .int .u8 0, .int .u8 0, .int .u8 0, .int .u8 0, .int .u8 0, .int .u8 0, .int .u8 0, .int .u8 0, .int .u8 0, .int .u8 0, .int .u8 0, .int .u8 0, .int .u8 0] 119))
      have Rx7 : RB ((w.drew.alloc (.cells #[.pointer none, .slice none 0 0] 116)).alloc (.cells #[.int .u8 0, .int .u8 0, .int .u8 0, .int .u8 0, .int .u8 0, .int .u8 0, .int .u8 0, .int .u8 0, .int .u8 0, .int .u8 0, .int .u8 0, .int .u8 0, .int .u8 0, .int .u8 0, .int .u8 0, .int .u8 0] 119)) (w.drew.alloc (.cells #[.pointer none, .slice none 0 0] 116)).heap.size 16 119 (fun _ => 0) := by
        rw [zeroG]; exact RB.new (w.drew.alloc (.cells #[.pointer none, .slice none 0 0] 116)) 16 _ _
      have qx7 : (w.drew.alloc (.cells #[.pointer none, .slice none 0 0] 116)).heap.size = (w.drew.heap.size + 1) := by simp
      rw [qx7] at Rx7 aBx7
      refine hK'.out _ _ HB8 (fun _ => ?_)
      clear hK' K'
      try simp only [Act.put, List.setIfInBounds_toArray, List.set_cons_zero, List.set_cons_succ]
      refine wpAnyH_ready (rs := [1]) (by kernel_rfl) (by simp) ?_
      refine AllReadyH.cons (o := { dst := some 10, op := Op.call { callee := Callee.value (Operand.func 97), args := #[Operand.tmp 9], argTypes := #[9] }, type := 116, pos := "l6_aes.go:213", after := #[{ on := 0, ground := Ground.data }], guard := none }) rfl (fun K' hK' => ?_) AllReadyH.nil
      go_simp
      refine (cipherOf_no s _ hs hs1).mono ?_
      rintro e w9 ⟨⟨u0, pv, rfl⟩, HB10⟩
      first | exact ⟨⟨_, _, rfl⟩, HB8.trans (HB10.mono HB8.size)⟩ | exact ⟨⟨_, _, rfl⟩, HB8.trans (HB10.mono HB8.size), rfl⟩ | exact ⟨HB8.trans (HB10.mono HB8.size), rfl⟩ | exact HB8.trans (HB10.mono HB8.size)
    refine AllReadyH.cons (o := { dst := some 5, op := Op.alloc 119, type := 0, pos := "l6_aes.go:213", after := #[], guard := none }) rfl (fun K' hK' => ?_) AllReadyH.nil
    go_simp
    have HB12 := H0.alloc H0.size (.cells #[.int .u8 0, .int .u8 0, .int .u8 0, .int .u8 0, .int .u8 0, .int .u8 0, .int .u8 0, .int .u8 0, .int .u8 0, .int .u8 0, .int .u8 0, .int .u8 0, .int .u8 0, .int .u8 0, .int .u8 0, .int .u8 0] 119)
    have aBx11 := H0.size
    have Rx11 : RB (w.drew.alloc (.cells #[.int .u8 0, .int .u8 0, .int .u8 0, .int .u8 0, .int .u8 0, .int .u8 0, .int .u8 0, .int .u8 0, .int .u8 0, .int .u8 0, .int .u8 0, .int .u8 0, .int .u8 0, .int .u8 0, .int .u8 0, .int .u8 0] 119)) w.drew.heap.size 16 119 (fun _ => 0) := by
      rw [zeroG]; exact RB.new w.drew 16 _ _
    refine hK'.out _ _ HB12 (fun _ => ?_)
    clear hK' K'
    try simp only [Act.put, List.setIfInBounds_toArray, List.set_cons_zero, List.set_cons_succ]
    refine wpAnyH_ready (rs := [1, 6]) (by kernel_rfl) (by simp) ?_
    refine AllReadyH.cons (o := { dst := some 10, op := Op.call { callee := Callee.value (Operand.func 97), args := #[Operand.tmp 9], argTypes := #[9] }, type := 116, pos := "l6_aes.go:213", after := #[{ on := 0, ground := Ground.data }], guard := none }) rfl (fun K' hK' => ?_) ?_
    · go_simp
      refine (cipherOf_no s _ hs hs1).mono ?_
      rintro e w13 ⟨⟨u0, pv, rfl⟩, HB14⟩
      first | exact ⟨⟨_, _, rfl⟩, HB12.trans (HB14.mono HB12.size)⟩ | exact ⟨⟨_, _, rfl⟩, HB12.trans (HB14.mono HB12.size), rfl⟩ | exact ⟨HB12.trans (HB14.mono HB12.size), rfl⟩ | exact HB12.trans (HB14.mono HB12.size)
    refine AllReadyH.cons (o := { dst := some 4, op := Op.alloc 116, type := 0, pos := "l6_aes.go:213", after := #[], guard := none }) rfl (fun K' hK' => ?_) AllReadyH.nil
    go_simp
    have HB16 := HB12.alloc HB12.size (.cells #[.pointer none, .slice none 0 0] 116)
    have cBx15 := HB12.size
    have Rx15 := RBlater Rx11 (below_box _ (.cells #[.pointer none, .slice none 0 0] 116))
    have qx15 : (w.drew.alloc (.cells #[.int .u8 0, .int .u8 0, .int .u8 0, .int .u8 0, .int .u8 0, .int .u8 0, .int .u8 0, .int .u8 0, .int .u8 0, .int .u8 0, .int .u8 0, .int .u8 0, .int .u8 0, .int .u8 0, .int .u8 0, .int .u8 0] 119)).heap.size = (w.drew.heap.size + 1) := by simp
    have Zx15 : CZ ((w.drew.alloc (.cells #[.int .u8 0, .int .u8 0, .int .u8 0, .int .u8 0, .int .u8 0, .int .u8 0, .int .u8 0, .int .u8 0, .int .u8 0, .int .u8 0, .int .u8 0, .int .u8 0, .int .u8 0, .int .u8 0, .int .u8 0, .int .u8 0] 119)).alloc (.cells #[.pointer none, .slice none 0 0] 116)) (w.drew.heap.size + 1) := by have := CZ.new (w.drew.alloc (.cells #[.int .u8 0, .int .u8 0, .int .u8 0, .int .u8 0, .int .u8 0, .int .u8 0, .int .u8 0, .int .u8 0, .int .u8 0, .int .u8 0, .int .u8 0, .int .u8 0, .int .u8 0, .int .u8 0, .int .u8 0, .int .u8 0] 119)); rw [qx15] at this; exact this
    rw [qx15] at cBx15
    refine hK'.out _ _ HB16 (fun _ => ?_)
    clear hK' K'
    try simp only [Act.put, List.setIfInBounds_toArray, List.set_cons_zero, List.set_cons_succ]
    refine wpAnyH_ready (rs := [1]) (by kernel_rfl) (by simp) ?_
    refine AllReadyH.cons (o := { dst := some 10, op := Op.call { callee := Callee.value (Operand.func 97), args := #[Operand.tmp 9], argTypes := #[9] }, type := 116, pos := "l6_aes.go:213", after := #[{ on := 0, ground := Ground.data }], guard := none }) rfl (fun K' hK' => ?_) AllReadyH.nil
    go_simp
    refine (cipherOf_no s _ hs hs1).mono ?_
    rintro e w17 ⟨⟨u0, pv, rfl⟩, HB18⟩
    first | exact ⟨⟨_, _, rfl⟩, HB16.trans (HB18.mono HB16.size)⟩ | exact ⟨⟨_, _, rfl⟩, HB16.trans (HB18.mono HB16.size), rfl⟩ | exact ⟨HB16.trans (HB18.mono HB16.size), rfl⟩ | exact HB16.trans (HB18.mono HB16.size)
set_option maxHeartbeats 4000000 in
set_option maxRecDepth 100000 in
theorem chp_no2 (s t u : ByteArray) (b c d : Nat) (w : World) (hs : s.size = 16) (ht : t.size ≠ 16) (ht1 : t.size ≤ 1048576) (hb : w.cell? ⟨b, 0, none⟩ = some (.string s)) (hc : w.cell? ⟨c, 0, none⟩ = some (.string t)) (hd : w.cell? ⟨d, 0, none⟩ = some (.string u)) :
    Calls Tryz.prog 96 #[.pointer (some ⟨b, 0, none⟩), .pointer (some ⟨c, 0, none⟩), .pointer (some ⟨d, 0, none⟩)] w fun e w' => PanP w e w' := by
  have lb : b < w.heap.size := lt_of_cell hb
  have lc : c < w.heap.size := lt_of_cell hc
  have ld : d < w.heap.size := lt_of_cell hd
  go_enter Tryz.func96, Tryz.ntmps96
  go_wp2_with fail
  refine Code.wp_mono (Q := fun e a' w' => match e with | .panic c => (∃ u pv, c = [{ v := .iface u pv, recovered := false }]) ∧ Below w.heap.size w w' ∧ a'.defers = [] | _ => False) ?_ ?_
  · intro e a' w' h
    cases e <;> first | exact h.elim | skip
    obtain ⟨⟨u0, pv, rfl⟩, hB, hD⟩ := h
    have HB := hid_in hB
    clear hB
    go_wp2_with fail
    unfold bodyPost
    exact ⟨hD, ⟨_, _, rfl⟩, HB.out⟩
  · have H0 : Below w.heap.size w w.drew := (Below.refl _ _).drew
    refine wp_region_held_drew (S := fun w' => Below w.heap.size w w') (by kernel_rfl) H0 (fun _ => ?_)
    refine wpAnyH_take (i := 0) (oi := { dst := some 9, op := Op.load 9 (Operand.tmp 0), type := 9, pos := "l6_aes.go:213", after := #[], guard := none }) (v := .string s) rfl (by kernel_rfl) (by kernel_rfl) (by kernel_rfl) (fun _ _ _ h => h) (Or.inl ⟨by rfl, ?_⟩) H0 ?_
    · intro w' hw
      have hc1 := (hw.cell (p := ⟨b, 0, none⟩) lb).trans hb
      go_simp
    try simp only [Act.put, List.setIfInBounds_toArray, List.set_cons_zero, List.set_cons_succ]
    refine wpAnyH_take (i := 2) (oi := { dst := some 11, op := Op.load 9 (Operand.tmp 1), type := 9, pos := "l6_aes.go:213", after := #[], guard := none }) (v := .string t) rfl (by kernel_rfl) (by kernel_rfl) (by kernel_rfl) (fun _ _ _ h => h) (Or.inl ⟨by rfl, ?_⟩) H0 ?_
    · intro w' hw
      have hc1 := (hw.cell (p := ⟨c, 0, none⟩) lc).trans hc
      go_simp
    try simp only [Act.put, List.setIfInBounds_toArray, List.set_cons_zero, List.set_cons_succ]
    refine wpAnyH_take (i := 4) (oi := { dst := some 13, op := Op.load 9 (Operand.tmp 2), type := 9, pos := "l6_aes.go:213", after := #[], guard := none }) (v := .string u) rfl (by kernel_rfl) (by kernel_rfl) (by kernel_rfl) (fun _ _ _ h => h) (Or.inl ⟨by rfl, ?_⟩) H0 ?_
    · intro w' hw
      have hc1 := (hw.cell (p := ⟨d, 0, none⟩) ld).trans hd
      go_simp
    try simp only [Act.put, List.setIfInBounds_toArray, List.set_cons_zero, List.set_cons_succ]
    refine wpAnyH_ready (rs := [1, 6, 7]) (by kernel_rfl) (by simp) ?_
    refine AllReadyH.cons (o := { dst := some 10, op := Op.call { callee := Callee.value (Operand.func 97), args := #[Operand.tmp 9], argTypes := #[9] }, type := 116, pos := "l6_aes.go:213", after := #[{ on := 0, ground := Ground.data }], guard := none }) rfl (fun K' hK' => ?_) ?_
    · go_simp
      refine (cipherOf_ok s _ hs).mono ?_
      rintro e w19 ⟨gt, gk, cap, rfl, Tw19, Kw19, HB20'⟩
      have HB20 := H0.trans (HB20'.mono H0.size)
      refine hK'.out _ _ HB20 (fun _ => ?_)
      clear hK' K'
      try simp only [Act.put, List.setIfInBounds_toArray, List.set_cons_zero, List.set_cons_succ]
      refine wpAnyH_ready (rs := [3, 6, 7]) (by kernel_rfl) (by simp) ?_
      refine AllReadyH.cons (o := { dst := some 12, op := Op.call { callee := Callee.value (Operand.func 98), args := #[Operand.tmp 11], argTypes := #[9] }, type := 119, pos := "l6_aes.go:213", after := #[{ on := 2, ground := Ground.data }, { on := 1, ground := Ground.chain }], guard := none }) rfl (fun K' hK' => ?_) ?_
      · go_simp
        refine (gridOf_no t _ ht ht1).mono ?_
        rintro e w21 ⟨⟨u0, pv, rfl⟩, HB22⟩
        first | exact ⟨⟨_, _, rfl⟩, HB20.trans (HB22.mono HB20.size)⟩ | exact ⟨⟨_, _, rfl⟩, HB20.trans (HB22.mono HB20.size), rfl⟩ | exact ⟨HB20.trans (HB22.mono HB20.size), rfl⟩ | exact HB20.trans (HB22.mono HB20.size)
      refine AllReadyH.cons (o := { dst := some 4, op := Op.alloc 116, type := 0, pos := "l6_aes.go:213", after := #[], guard := none }) rfl (fun K' hK' => ?_) ?_
      · go_simp
        have HB24 := HB20.alloc HB20.size (.cells #[.pointer none, .slice none 0 0] 116)
        have cBx23 := HB20.size
        have Tx23 := RBlater Tw19 (below_box _ (.cells #[.pointer none, .slice none 0 0] 116))
        have Kx23 := Kw19.later (below_box _ (.cells #[.pointer none, .slice none 0 0] 116))
        have Zx23 := CZ.new w19
        refine hK'.out _ _ HB24 (fun _ => ?_)
        clear hK' K'
        try simp only [Act.put, List.setIfInBounds_toArray, List.set_cons_zero, List.set_cons_succ]
        refine wpAnyH_ready (rs := [3, 7]) (by kernel_rfl) (by simp) ?_
        refine AllReadyH.cons (o := { dst := some 12, op := Op.call { callee := Callee.value (Operand.func 98), args := #[Operand.tmp 11], argTypes := #[9] }, type := 119, pos := "l6_aes.go:213", after := #[{ on := 2, ground := Ground.data }, { on := 1, ground := Ground.chain }], guard := none }) rfl (fun K' hK' => ?_) ?_
        · go_simp
          refine (gridOf_no t _ ht ht1).mono ?_
          rintro e w25 ⟨⟨u0, pv, rfl⟩, HB26⟩
          first | exact ⟨⟨_, _, rfl⟩, HB24.trans (HB26.mono HB24.size)⟩ | exact ⟨⟨_, _, rfl⟩, HB24.trans (HB26.mono HB24.size), rfl⟩ | exact ⟨HB24.trans (HB26.mono HB24.size), rfl⟩ | exact HB24.trans (HB26.mono HB24.size)
        refine AllReadyH.cons (o := { dst := some 5, op := Op.alloc 119, type := 0, pos := "l6_aes.go:213", after := #[], guard := none }) rfl (fun K' hK' => ?_) AllReadyH.nil
        go_simp
        have HB28 := HB24.alloc HB24.size (.cells #[.int .u8 0, .int .u8 0, .int .u8 0, .int .u8 0, .int .u8 0, .int .u8 0, .int .u8 0, .int .u8 0, .int .u8 0, .int .u8 0, .int .u8 0, .int .u8 0, .int .u8 0, .int .u8 0, .int .u8 0, .int .u8 0] 119)
        have aBx27 := HB24.size
        have Tx27 := RBlater Tx23 (below_box _ (.cells #[.int .u8 0, .int .u8 0, .int .u8 0, .int .u8 0, .int .u8 0, .int .u8 0, .int .u8 0, .int .u8 0, .int .u8 0, .int .u8 0, .int .u8 0, .int .u8 0, .int .u8 0, .int .u8 0, .int .u8 0, .int .u8 0] 119))
        have Kx27 := Kx23.later (below_box _ (.cells #[.int .u8 0, .int .u8 0, .int .u8 0, .int .u8 0, .int .u8 0, .int .u8 0, .int .u8 0, .int .u8 0, .int .u8 0, .int .u8 0, .int .u8 0, .int .u8 0, .int .u8 0, .int .u8 0, .int .u8 0, .int .u8 0] 119))
        have Zx27 := Zx23.later (below_box _ (.cells #[.int .u8 0, .int .u8 0, .int .u8 0, .int .u8 0, .int .u8 0, .int .u8 0, .int .u8 0, .int .u8 0, .int .u8 0, .int .u8 0, .int .u8 0, .int .u8 0, .int .u8 0, .int .u8 0, .int .u8 0, .int .u8 0] 119))
        have Rx27 : RB ((w19.alloc (.cells #[.pointer none, .slice none 0 0] 116)).alloc (.cells #[.int .u8 0, .int .u8 0, .int .u8 0, .int .u8 0, .int .u8 0, .int .u8 0, .int .u8 0, .int .u8 0, .int .u8 0, .int .u8 0, .int .u8 0, .int .u8 0, .int .u8 0, .int .u8 0, .int .u8 0, .int .u8 0] 119)) (w19.alloc (.cells #[.pointer none, .slice none 0 0] 116)).heap.size 16 119 (fun _ => 0) := by
          rw [zeroG]; exact RB.new (w19.alloc (.cells #[.pointer none, .slice none 0 0] 116)) 16 _ _
        have qx27 : (w19.alloc (.cells #[.pointer none, .slice none 0 0] 116)).heap.size = (w19.heap.size + 1) := by simp
        rw [qx27] at Rx27 aBx27
        refine hK'.out _ _ HB28 (fun _ => ?_)
        clear hK' K'
        try simp only [Act.put, List.setIfInBounds_toArray, List.set_cons_zero, List.set_cons_succ]
        refine wpAnyH_ready (rs := [3]) (by kernel_rfl) (by simp) ?_
        refine AllReadyH.cons (o := { dst := some 12, op := Op.call { callee := Callee.value (Operand.func 98), args := #[Operand.tmp 11], argTypes := #[9] }, type := 119, pos := "l6_aes.go:213", after := #[{ on := 2, ground := Ground.data }, { on := 1, ground := Ground.chain }], guard := none }) rfl (fun K' hK' => ?_) AllReadyH.nil
        go_simp
        refine (gridOf_no t _ ht ht1).mono ?_
        rintro e w29 ⟨⟨u0, pv, rfl⟩, HB30⟩
        first | exact ⟨⟨_, _, rfl⟩, HB28.trans (HB30.mono HB28.size)⟩ | exact ⟨⟨_, _, rfl⟩, HB28.trans (HB30.mono HB28.size), rfl⟩ | exact ⟨HB28.trans (HB30.mono HB28.size), rfl⟩ | exact HB28.trans (HB30.mono HB28.size)
      refine AllReadyH.cons (o := { dst := some 5, op := Op.alloc 119, type := 0, pos := "l6_aes.go:213", after := #[], guard := none }) rfl (fun K' hK' => ?_) AllReadyH.nil
      go_simp
      have HB32 := HB20.alloc HB20.size (.cells #[.int .u8 0, .int .u8 0, .int .u8 0, .int .u8 0, .int .u8 0, .int .u8 0, .int .u8 0, .int .u8 0, .int .u8 0, .int .u8 0, .int .u8 0, .int .u8 0, .int .u8 0, .int .u8 0, .int .u8 0, .int .u8 0] 119)
      have aBx31 := HB20.size
      have Tx31 := RBlater Tw19 (below_box _ (.cells #[.int .u8 0, .int .u8 0, .int .u8 0, .int .u8 0, .int .u8 0, .int .u8 0, .int .u8 0, .int .u8 0, .int .u8 0, .int .u8 0, .int .u8 0, .int .u8 0, .int .u8 0, .int .u8 0, .int .u8 0, .int .u8 0] 119))
      have Kx31 := Kw19.later (below_box _ (.cells #[.int .u8 0, .int .u8 0, .int .u8 0, .int .u8 0, .int .u8 0, .int .u8 0, .int .u8 0, .int .u8 0, .int .u8 0, .int .u8 0, .int .u8 0, .int .u8 0, .int .u8 0, .int .u8 0, .int .u8 0, .int .u8 0] 119))
      have Rx31 : RB (w19.alloc (.cells #[.int .u8 0, .int .u8 0, .int .u8 0, .int .u8 0, .int .u8 0, .int .u8 0, .int .u8 0, .int .u8 0, .int .u8 0, .int .u8 0, .int .u8 0, .int .u8 0, .int .u8 0, .int .u8 0, .int .u8 0, .int .u8 0] 119)) w19.heap.size 16 119 (fun _ => 0) := by
        rw [zeroG]; exact RB.new w19 16 _ _
      refine hK'.out _ _ HB32 (fun _ => ?_)
      clear hK' K'
      try simp only [Act.put, List.setIfInBounds_toArray, List.set_cons_zero, List.set_cons_succ]
      refine wpAnyH_ready (rs := [3, 6]) (by kernel_rfl) (by simp) ?_
      refine AllReadyH.cons (o := { dst := some 12, op := Op.call { callee := Callee.value (Operand.func 98), args := #[Operand.tmp 11], argTypes := #[9] }, type := 119, pos := "l6_aes.go:213", after := #[{ on := 2, ground := Ground.data }, { on := 1, ground := Ground.chain }], guard := none }) rfl (fun K' hK' => ?_) ?_
      · go_simp
        refine (gridOf_no t _ ht ht1).mono ?_
        rintro e w33 ⟨⟨u0, pv, rfl⟩, HB34⟩
        first | exact ⟨⟨_, _, rfl⟩, HB32.trans (HB34.mono HB32.size)⟩ | exact ⟨⟨_, _, rfl⟩, HB32.trans (HB34.mono HB32.size), rfl⟩ | exact ⟨HB32.trans (HB34.mono HB32.size), rfl⟩ | exact HB32.trans (HB34.mono HB32.size)
      refine AllReadyH.cons (o := { dst := some 4, op := Op.alloc 116, type := 0, pos := "l6_aes.go:213", after := #[], guard := none }) rfl (fun K' hK' => ?_) AllReadyH.nil
      go_simp
      have HB36 := HB32.alloc HB32.size (.cells #[.pointer none, .slice none 0 0] 116)
      have cBx35 := HB32.size
      have Tx35 := RBlater Tx31 (below_box _ (.cells #[.pointer none, .slice none 0 0] 116))
      have Kx35 := Kx31.later (below_box _ (.cells #[.pointer none, .slice none 0 0] 116))
      have Rx35 := RBlater Rx31 (below_box _ (.cells #[.pointer none, .slice none 0 0] 116))
      have qx35 : (w19.alloc (.cells #[.int .u8 0, .int .u8 0, .int .u8 0, .int .u8 0, .int .u8 0, .int .u8 0, .int .u8 0, .int .u8 0, .int .u8 0, .int .u8 0, .int .u8 0, .int .u8 0, .int .u8 0, .int .u8 0, .int .u8 0, .int .u8 0] 119)).heap.size = (w19.heap.size + 1) := by simp
      have Zx35 : CZ ((w19.alloc (.cells #[.int .u8 0, .int .u8 0, .int .u8 0, .int .u8 0, .int .u8 0, .int .u8 0, .int .u8 0, .int .u8 0, .int .u8 0, .int .u8 0, .int .u8 0, .int .u8 0, .int .u8 0, .int .u8 0, .int .u8 0, .int .u8 0] 119)).alloc (.cells #[.pointer none, .slice none 0 0] 116)) (w19.heap.size + 1) := by have := CZ.new (w19.alloc (.cells #[.int .u8 0, .int .u8 0, .int .u8 0, .int .u8 0, .int .u8 0, .int .u8 0, .int .u8 0, .int .u8 0, .int .u8 0, .int .u8 0, .int .u8 0, .int .u8 0, .int .u8 0, .int .u8 0, .int .u8 0, .int .u8 0] 119)); rw [qx35] at this; exact this
      rw [qx35] at cBx35
      refine hK'.out _ _ HB36 (fun _ => ?_)
      clear hK' K'
      try simp only [Act.put, List.setIfInBounds_toArray, List.set_cons_zero, List.set_cons_succ]
      refine wpAnyH_ready (rs := [3]) (by kernel_rfl) (by simp) ?_
      refine AllReadyH.cons (o := { dst := some 12, op := Op.call { callee := Callee.value (Operand.func 98), args := #[Operand.tmp 11], argTypes := #[9] }, type := 119, pos := "l6_aes.go:213", after := #[{ on := 2, ground := Ground.data }, { on := 1, ground := Ground.chain }], guard := none }) rfl (fun K' hK' => ?_) AllReadyH.nil
      go_simp
      refine (gridOf_no t _ ht ht1).mono ?_
      rintro e w37 ⟨⟨u0, pv, rfl⟩, HB38⟩
      first | exact ⟨⟨_, _, rfl⟩, HB36.trans (HB38.mono HB36.size)⟩ | exact ⟨⟨_, _, rfl⟩, HB36.trans (HB38.mono HB36.size), rfl⟩ | exact ⟨HB36.trans (HB38.mono HB36.size), rfl⟩ | exact HB36.trans (HB38.mono HB36.size)
    refine AllReadyH.cons (o := { dst := some 4, op := Op.alloc 116, type := 0, pos := "l6_aes.go:213", after := #[], guard := none }) rfl (fun K' hK' => ?_) ?_
    · go_simp
      have HB40 := H0.alloc H0.size (.cells #[.pointer none, .slice none 0 0] 116)
      have cBx39 := H0.size
      have Zx39 := CZ.new w.drew
      refine hK'.out _ _ HB40 (fun _ => ?_)
      clear hK' K'
      try simp only [Act.put, List.setIfInBounds_toArray, List.set_cons_zero, List.set_cons_succ]
      refine wpAnyH_ready (rs := [1, 7]) (by kernel_rfl) (by simp) ?_
      refine AllReadyH.cons (o := { dst := some 10, op := Op.call { callee := Callee.value (Operand.func 97), args := #[Operand.tmp 9], argTypes := #[9] }, type := 116, pos := "l6_aes.go:213", after := #[{ on := 0, ground := Ground.data }], guard := none }) rfl (fun K' hK' => ?_) ?_
      · go_simp
        refine (cipherOf_ok s _ hs).mono ?_
        rintro e w41 ⟨gt, gk, cap, rfl, Tw41, Kw41, HB42'⟩
        have HB42 := HB40.trans (HB42'.mono HB40.size)
        have Zw41 := Zx39.later HB42'
        refine hK'.out _ _ HB42 (fun _ => ?_)
        clear hK' K'
        try simp only [Act.put, List.setIfInBounds_toArray, List.set_cons_zero, List.set_cons_succ]
        refine wpAnyH_ready (rs := [3, 7]) (by kernel_rfl) (by simp) ?_
        refine AllReadyH.cons (o := { dst := some 12, op := Op.call { callee := Callee.value (Operand.func 98), args := #[Operand.tmp 11], argTypes := #[9] }, type := 119, pos := "l6_aes.go:213", after := #[{ on := 2, ground := Ground.data }, { on := 1, ground := Ground.chain }], guard := none }) rfl (fun K' hK' => ?_) ?_
        · go_simp
          refine (gridOf_no t _ ht ht1).mono ?_
          rintro e w43 ⟨⟨u0, pv, rfl⟩, HB44⟩
          first | exact ⟨⟨_, _, rfl⟩, HB42.trans (HB44.mono HB42.size)⟩ | exact ⟨⟨_, _, rfl⟩, HB42.trans (HB44.mono HB42.size), rfl⟩ | exact ⟨HB42.trans (HB44.mono HB42.size), rfl⟩ | exact HB42.trans (HB44.mono HB42.size)
        refine AllReadyH.cons (o := { dst := some 5, op := Op.alloc 119, type := 0, pos := "l6_aes.go:213", after := #[], guard := none }) rfl (fun K' hK' => ?_) AllReadyH.nil
        go_simp
        have HB46 := HB42.alloc HB42.size (.cells #[.int .u8 0, .int .u8 0, .int .u8 0, .int .u8 0, .int .u8 0, .int .u8 0, .int .u8 0, .int .u8 0, .int .u8 0, .int .u8 0, .int .u8 0, .int .u8 0, .int .u8 0, .int .u8 0, .int .u8 0, .int .u8 0] 119)
        have aBx45 := HB42.size
        have Tx45 := RBlater Tw41 (below_box _ (.cells #[.int .u8 0, .int .u8 0, .int .u8 0, .int .u8 0, .int .u8 0, .int .u8 0, .int .u8 0, .int .u8 0, .int .u8 0, .int .u8 0, .int .u8 0, .int .u8 0, .int .u8 0, .int .u8 0, .int .u8 0, .int .u8 0] 119))
        have Kx45 := Kw41.later (below_box _ (.cells #[.int .u8 0, .int .u8 0, .int .u8 0, .int .u8 0, .int .u8 0, .int .u8 0, .int .u8 0, .int .u8 0, .int .u8 0, .int .u8 0, .int .u8 0, .int .u8 0, .int .u8 0, .int .u8 0, .int .u8 0, .int .u8 0] 119))
        have Zx45 := Zw41.later (below_box _ (.cells #[.int .u8 0, .int .u8 0, .int .u8 0, .int .u8 0, .int .u8 0, .int .u8 0, .int .u8 0, .int .u8 0, .int .u8 0, .int .u8 0, .int .u8 0, .int .u8 0, .int .u8 0, .int .u8 0, .int .u8 0, .int .u8 0] 119))
        have Rx45 : RB (w41.alloc (.cells #[.int .u8 0, .int .u8 0, .int .u8 0, .int .u8 0, .int .u8 0, .int .u8 0, .int .u8 0, .int .u8 0, .int .u8 0, .int .u8 0, .int .u8 0, .int .u8 0, .int .u8 0, .int .u8 0, .int .u8 0, .int .u8 0] 119)) w41.heap.size 16 119 (fun _ => 0) := by
          rw [zeroG]; exact RB.new w41 16 _ _
        refine hK'.out _ _ HB46 (fun _ => ?_)
        clear hK' K'
        try simp only [Act.put, List.setIfInBounds_toArray, List.set_cons_zero, List.set_cons_succ]
        refine wpAnyH_ready (rs := [3]) (by kernel_rfl) (by simp) ?_
        refine AllReadyH.cons (o := { dst := some 12, op := Op.call { callee := Callee.value (Operand.func 98), args := #[Operand.tmp 11], argTypes := #[9] }, type := 119, pos := "l6_aes.go:213", after := #[{ on := 2, ground := Ground.data }, { on := 1, ground := Ground.chain }], guard := none }) rfl (fun K' hK' => ?_) AllReadyH.nil
        go_simp
        refine (gridOf_no t _ ht ht1).mono ?_
        rintro e w47 ⟨⟨u0, pv, rfl⟩, HB48⟩
        first | exact ⟨⟨_, _, rfl⟩, HB46.trans (HB48.mono HB46.size)⟩ | exact ⟨⟨_, _, rfl⟩, HB46.trans (HB48.mono HB46.size), rfl⟩ | exact ⟨HB46.trans (HB48.mono HB46.size), rfl⟩ | exact HB46.trans (HB48.mono HB46.size)
      refine AllReadyH.cons (o := { dst := some 5, op := Op.alloc 119, type := 0, pos := "l6_aes.go:213", after := #[], guard := none }) rfl (fun K' hK' => ?_) AllReadyH.nil
      go_simp
      have HB50 := HB40.alloc HB40.size (.cells #[.int .u8 0, .int .u8 0, .int .u8 0, .int .u8 0, .int .u8 0, .int .u8 0, .int .u8 0, .int .u8 0, .int .u8 0, .int .u8 0, .int .u8 0, .int .u8 0, .int .u8 0, .int .u8 0, .int .u8 0, .int .u8 0] 119)
      have aBx49 := HB40.size
      have Zx49 := Zx39.later (below_box _ (.cells #[.int .u8 0, .int .u8 0, .int .u8 0, .int .u8 0, .int .u8 0, .int .u8 0, .int .u8 0, .int .u8 0, .int .u8 0, .int .u8 0, .int .u8 0, .int .u8 0, .int .u8 0, .int .u8 0, .int .u8 0, .int .u8 0] 119))
      have Rx49 : RB ((w.drew.alloc (.cells #[.pointer none, .slice none 0 0] 116)).alloc (.cells #[.int .u8 0, .int .u8 0, .int .u8 0, .int .u8 0, .int .u8 0, .int .u8 0, .int .u8 0, .int .u8 0, .int .u8 0, .int .u8 0, .int .u8 0, .int .u8 0, .int .u8 0, .int .u8 0, .int .u8 0, .int .u8 0] 119)) (w.drew.alloc (.cells #[.pointer none, .slice none 0 0] 116)).heap.size 16 119 (fun _ => 0) := by
        rw [zeroG]; exact RB.new (w.drew.alloc (.cells #[.pointer none, .slice none 0 0] 116)) 16 _ _
      have qx49 : (w.drew.alloc (.cells #[.pointer none, .slice none 0 0] 116)).heap.size = (w.drew.heap.size + 1) := by simp
      rw [qx49] at Rx49 aBx49
      refine hK'.out _ _ HB50 (fun _ => ?_)
      clear hK' K'
      try simp only [Act.put, List.setIfInBounds_toArray, List.set_cons_zero, List.set_cons_succ]
      refine wpAnyH_ready (rs := [1]) (by kernel_rfl) (by simp) ?_
      refine AllReadyH.cons (o := { dst := some 10, op := Op.call { callee := Callee.value (Operand.func 97), args := #[Operand.tmp 9], argTypes := #[9] }, type := 116, pos := "l6_aes.go:213", after := #[{ on := 0, ground := Ground.data }], guard := none }) rfl (fun K' hK' => ?_) AllReadyH.nil
      go_simp
      refine (cipherOf_ok s _ hs).mono ?_
      rintro e w51 ⟨gt, gk, cap, rfl, Tw51, Kw51, HB52'⟩
      have HB52 := HB50.trans (HB52'.mono HB50.size)
      have Rw51 := RBlater Rx49 HB52'
      have Zw51 := Zx49.later HB52'
      refine hK'.out _ _ HB52 (fun _ => ?_)
      clear hK' K'
      try simp only [Act.put, List.setIfInBounds_toArray, List.set_cons_zero, List.set_cons_succ]
      refine wpAnyH_ready (rs := [3]) (by kernel_rfl) (by simp) ?_
      refine AllReadyH.cons (o := { dst := some 12, op := Op.call { callee := Callee.value (Operand.func 98), args := #[Operand.tmp 11], argTypes := #[9] }, type := 119, pos := "l6_aes.go:213", after := #[{ on := 2, ground := Ground.data }, { on := 1, ground := Ground.chain }], guard := none }) rfl (fun K' hK' => ?_) AllReadyH.nil
      go_simp
      refine (gridOf_no t _ ht ht1).mono ?_
      rintro e w53 ⟨⟨u0, pv, rfl⟩, HB54⟩
      first | exact ⟨⟨_, _, rfl⟩, HB52.trans (HB54.mono HB52.size)⟩ | exact ⟨⟨_, _, rfl⟩, HB52.trans (HB54.mono HB52.size), rfl⟩ | exact ⟨HB52.trans (HB54.mono HB52.size), rfl⟩ | exact HB52.trans (HB54.mono HB52.size)
    refine AllReadyH.cons (o := { dst := some 5, op := Op.alloc 119, type := 0, pos := "l6_aes.go:213", after := #[], guard := none }) rfl (fun K' hK' => ?_) AllReadyH.nil
    go_simp
    have HB56 := H0.alloc H0.size (.cells #[.int .u8 0, .int .u8 0, .int .u8 0, .int .u8 0, .int .u8 0, .int .u8 0, .int .u8 0, .int .u8 0, .int .u8 0, .int .u8 0, .int .u8 0, .int .u8 0, .int .u8 0, .int .u8 0, .int .u8 0, .int .u8 0] 119)
    have aBx55 := H0.size
    have Rx55 : RB (w.drew.alloc (.cells #[.int .u8 0, .int .u8 0, .int .u8 0, .int .u8 0, .int .u8 0, .int .u8 0, .int .u8 0, .int .u8 0, .int .u8 0, .int .u8 0, .int .u8 0, .int .u8 0, .int .u8 0, .int .u8 0, .int .u8 0, .int .u8 0] 119)) w.drew.heap.size 16 119 (fun _ => 0) := by
      rw [zeroG]; exact RB.new w.drew 16 _ _
    refine hK'.out _ _ HB56 (fun _ => ?_)
    clear hK' K'
    try simp only [Act.put, List.setIfInBounds_toArray, List.set_cons_zero, List.set_cons_succ]
    refine wpAnyH_ready (rs := [1, 6]) (by kernel_rfl) (by simp) ?_
    refine AllReadyH.cons (o := { dst := some 10, op := Op.call { callee := Callee.value (Operand.func 97), args := #[Operand.tmp 9], argTypes := #[9] }, type := 116, pos := "l6_aes.go:213", after := #[{ on := 0, ground := Ground.data }], guard := none }) rfl (fun K' hK' => ?_) ?_
    · go_simp
      refine (cipherOf_ok s _ hs).mono ?_
      rintro e w57 ⟨gt, gk, cap, rfl, Tw57, Kw57, HB58'⟩
      have HB58 := HB56.trans (HB58'.mono HB56.size)
      have Rw57 := RBlater Rx55 HB58'
      refine hK'.out _ _ HB58 (fun _ => ?_)
      clear hK' K'
      try simp only [Act.put, List.setIfInBounds_toArray, List.set_cons_zero, List.set_cons_succ]
      refine wpAnyH_ready (rs := [3, 6]) (by kernel_rfl) (by simp) ?_
      refine AllReadyH.cons (o := { dst := some 12, op := Op.call { callee := Callee.value (Operand.func 98), args := #[Operand.tmp 11], argTypes := #[9] }, type := 119, pos := "l6_aes.go:213", after := #[{ on := 2, ground := Ground.data }, { on := 1, ground := Ground.chain }], guard := none }) rfl (fun K' hK' => ?_) ?_
      · go_simp
        refine (gridOf_no t _ ht ht1).mono ?_
        rintro e w59 ⟨⟨u0, pv, rfl⟩, HB60⟩
        first | exact ⟨⟨_, _, rfl⟩, HB58.trans (HB60.mono HB58.size)⟩ | exact ⟨⟨_, _, rfl⟩, HB58.trans (HB60.mono HB58.size), rfl⟩ | exact ⟨HB58.trans (HB60.mono HB58.size), rfl⟩ | exact HB58.trans (HB60.mono HB58.size)
      refine AllReadyH.cons (o := { dst := some 4, op := Op.alloc 116, type := 0, pos := "l6_aes.go:213", after := #[], guard := none }) rfl (fun K' hK' => ?_) AllReadyH.nil
      go_simp
      have HB62 := HB58.alloc HB58.size (.cells #[.pointer none, .slice none 0 0] 116)
      have cBx61 := HB58.size
      have Tx61 := RBlater Tw57 (below_box _ (.cells #[.pointer none, .slice none 0 0] 116))
      have Kx61 := Kw57.later (below_box _ (.cells #[.pointer none, .slice none 0 0] 116))
      have Rx61 := RBlater Rw57 (below_box _ (.cells #[.pointer none, .slice none 0 0] 116))
      have Zx61 := CZ.new w57
      refine hK'.out _ _ HB62 (fun _ => ?_)
      clear hK' K'
      try simp only [Act.put, List.setIfInBounds_toArray, List.set_cons_zero, List.set_cons_succ]
      refine wpAnyH_ready (rs := [3]) (by kernel_rfl) (by simp) ?_
      refine AllReadyH.cons (o := { dst := some 12, op := Op.call { callee := Callee.value (Operand.func 98), args := #[Operand.tmp 11], argTypes := #[9] }, type := 119, pos := "l6_aes.go:213", after := #[{ on := 2, ground := Ground.data }, { on := 1, ground := Ground.chain }], guard := none }) rfl (fun K' hK' => ?_) AllReadyH.nil
      go_simp
      refine (gridOf_no t _ ht ht1).mono ?_
      rintro e w63 ⟨⟨u0, pv, rfl⟩, HB64⟩
      first | exact ⟨⟨_, _, rfl⟩, HB62.trans (HB64.mono HB62.size)⟩ | exact ⟨⟨_, _, rfl⟩, HB62.trans (HB64.mono HB62.size), rfl⟩ | exact ⟨HB62.trans (HB64.mono HB62.size), rfl⟩ | exact HB62.trans (HB64.mono HB62.size)
    refine AllReadyH.cons (o := { dst := some 4, op := Op.alloc 116, type := 0, pos := "l6_aes.go:213", after := #[], guard := none }) rfl (fun K' hK' => ?_) AllReadyH.nil
    go_simp
    have HB66 := HB56.alloc HB56.size (.cells #[.pointer none, .slice none 0 0] 116)
    have cBx65 := HB56.size
    have Rx65 := RBlater Rx55 (below_box _ (.cells #[.pointer none, .slice none 0 0] 116))
    have qx65 : (w.drew.alloc (.cells #[.int .u8 0, .int .u8 0, .int .u8 0, .int .u8 0, .int .u8 0, .int .u8 0, .int .u8 0, .int .u8 0, .int .u8 0, .int .u8 0, .int .u8 0, .int .u8 0, .int .u8 0, .int .u8 0, .int .u8 0, .int .u8 0] 119)).heap.size = (w.drew.heap.size + 1) := by simp
    have Zx65 : CZ ((w.drew.alloc (.cells #[.int .u8 0, .int .u8 0, .int .u8 0, .int .u8 0, .int .u8 0, .int .u8 0, .int .u8 0, .int .u8 0, .int .u8 0, .int .u8 0, .int .u8 0, .int .u8 0, .int .u8 0, .int .u8 0, .int .u8 0, .int .u8 0] 119)).alloc (.cells #[.pointer none, .slice none 0 0] 116)) (w.drew.heap.size + 1) := by have := CZ.new (w.drew.alloc (.cells #[.int .u8 0, .int .u8 0, .int .u8 0, .int .u8 0, .int .u8 0, .int .u8 0, .int .u8 0, .int .u8 0, .int .u8 0, .int .u8 0, .int .u8 0, .int .u8 0, .int .u8 0, .int .u8 0, .int .u8 0, .int .u8 0] 119)); rw [qx65] at this; exact this
    rw [qx65] at cBx65
    refine hK'.out _ _ HB66 (fun _ => ?_)
    clear hK' K'
    try simp only [Act.put, List.setIfInBounds_toArray, List.set_cons_zero, List.set_cons_succ]
    refine wpAnyH_ready (rs := [1]) (by kernel_rfl) (by simp) ?_
    refine AllReadyH.cons (o := { dst := some 10, op := Op.call { callee := Callee.value (Operand.func 97), args := #[Operand.tmp 9], argTypes := #[9] }, type := 116, pos := "l6_aes.go:213", after := #[{ on := 0, ground := Ground.data }], guard := none }) rfl (fun K' hK' => ?_) AllReadyH.nil
    go_simp
    refine (cipherOf_ok s _ hs).mono ?_
    rintro e w67 ⟨gt, gk, cap, rfl, Tw67, Kw67, HB68'⟩
    have HB68 := HB66.trans (HB68'.mono HB66.size)
    have Rw67 := RBlater Rx65 HB68'
    have Zw67 := Zx65.later HB68'
    refine hK'.out _ _ HB68 (fun _ => ?_)
    clear hK' K'
    try simp only [Act.put, List.setIfInBounds_toArray, List.set_cons_zero, List.set_cons_succ]
    refine wpAnyH_ready (rs := [3]) (by kernel_rfl) (by simp) ?_
    refine AllReadyH.cons (o := { dst := some 12, op := Op.call { callee := Callee.value (Operand.func 98), args := #[Operand.tmp 11], argTypes := #[9] }, type := 119, pos := "l6_aes.go:213", after := #[{ on := 2, ground := Ground.data }, { on := 1, ground := Ground.chain }], guard := none }) rfl (fun K' hK' => ?_) AllReadyH.nil
    go_simp
    refine (gridOf_no t _ ht ht1).mono ?_
    rintro e w69 ⟨⟨u0, pv, rfl⟩, HB70⟩
    first | exact ⟨⟨_, _, rfl⟩, HB68.trans (HB70.mono HB68.size)⟩ | exact ⟨⟨_, _, rfl⟩, HB68.trans (HB70.mono HB68.size), rfl⟩ | exact ⟨HB68.trans (HB70.mono HB68.size), rfl⟩ | exact HB68.trans (HB70.mono HB68.size)
set_option maxHeartbeats 4000000 in
set_option maxRecDepth 100000 in
theorem chp_no3 (s t u : ByteArray) (b c d : Nat) (w : World) (hs : s.size = 16) (ht : t.size = 16) (hu : ¬ (u.size % 16 = 0 ∧ u.size ≤ 320)) (hu1 : u.size ≤ 1048576) (hb : w.cell? ⟨b, 0, none⟩ = some (.string s)) (hc : w.cell? ⟨c, 0, none⟩ = some (.string t)) (hd : w.cell? ⟨d, 0, none⟩ = some (.string u)) :
    Calls Tryz.prog 96 #[.pointer (some ⟨b, 0, none⟩), .pointer (some ⟨c, 0, none⟩), .pointer (some ⟨d, 0, none⟩)] w fun e w' => PanP w e w' := by
  have lb : b < w.heap.size := lt_of_cell hb
  have lc : c < w.heap.size := lt_of_cell hc
  have ld : d < w.heap.size := lt_of_cell hd
  go_enter Tryz.func96, Tryz.ntmps96
  go_wp2_with fail
  refine Code.wp_mono (Q := fun e a' w' => match e with | .panic c => (∃ u pv, c = [{ v := .iface u pv, recovered := false }]) ∧ Below w.heap.size w w' ∧ a'.defers = [] | _ => False) ?_ ?_
  · intro e a' w' h
    cases e <;> first | exact h.elim | skip
    obtain ⟨⟨u0, pv, rfl⟩, hB, hD⟩ := h
    have HB := hid_in hB
    clear hB
    go_wp2_with fail
    unfold bodyPost
    exact ⟨hD, ⟨_, _, rfl⟩, HB.out⟩
  · have H0 : Below w.heap.size w w.drew := (Below.refl _ _).drew
    refine wp_region_held_drew (S := fun w' => Below w.heap.size w w') (by kernel_rfl) H0 (fun _ => ?_)
    refine wpAnyH_take (i := 0) (oi := { dst := some 9, op := Op.load 9 (Operand.tmp 0), type := 9, pos := "l6_aes.go:213", after := #[], guard := none }) (v := .string s) rfl (by kernel_rfl) (by kernel_rfl) (by kernel_rfl) (fun _ _ _ h => h) (Or.inl ⟨by rfl, ?_⟩) H0 ?_
    · intro w' hw
      have hc1 := (hw.cell (p := ⟨b, 0, none⟩) lb).trans hb
      go_simp
    try simp only [Act.put, List.setIfInBounds_toArray, List.set_cons_zero, List.set_cons_succ]
    refine wpAnyH_take (i := 2) (oi := { dst := some 11, op := Op.load 9 (Operand.tmp 1), type := 9, pos := "l6_aes.go:213", after := #[], guard := none }) (v := .string t) rfl (by kernel_rfl) (by kernel_rfl) (by kernel_rfl) (fun _ _ _ h => h) (Or.inl ⟨by rfl, ?_⟩) H0 ?_
    · intro w' hw
      have hc1 := (hw.cell (p := ⟨c, 0, none⟩) lc).trans hc
      go_simp
    try simp only [Act.put, List.setIfInBounds_toArray, List.set_cons_zero, List.set_cons_succ]
    refine wpAnyH_take (i := 4) (oi := { dst := some 13, op := Op.load 9 (Operand.tmp 2), type := 9, pos := "l6_aes.go:213", after := #[], guard := none }) (v := .string u) rfl (by kernel_rfl) (by kernel_rfl) (by kernel_rfl) (fun _ _ _ h => h) (Or.inl ⟨by rfl, ?_⟩) H0 ?_
    · intro w' hw
      have hc1 := (hw.cell (p := ⟨d, 0, none⟩) ld).trans hd
      go_simp
    try simp only [Act.put, List.setIfInBounds_toArray, List.set_cons_zero, List.set_cons_succ]
    refine wpAnyH_ready (rs := [1, 6, 7]) (by kernel_rfl) (by simp) ?_
    refine AllReadyH.cons (o := { dst := some 10, op := Op.call { callee := Callee.value (Operand.func 97), args := #[Operand.tmp 9], argTypes := #[9] }, type := 116, pos := "l6_aes.go:213", after := #[{ on := 0, ground := Ground.data }], guard := none }) rfl (fun K' hK' => ?_) ?_
    · go_simp
      refine (cipherOf_ok s _ hs).mono ?_
      rintro e w71 ⟨gt, gk, cap, rfl, Tw71, Kw71, HB72'⟩
      have HB72 := H0.trans (HB72'.mono H0.size)
      refine hK'.out _ _ HB72 (fun _ => ?_)
      clear hK' K'
      try simp only [Act.put, List.setIfInBounds_toArray, List.set_cons_zero, List.set_cons_succ]
      refine wpAnyH_ready (rs := [3, 6, 7]) (by kernel_rfl) (by simp) ?_
      refine AllReadyH.cons (o := { dst := some 12, op := Op.call { callee := Callee.value (Operand.func 98), args := #[Operand.tmp 11], argTypes := #[9] }, type := 119, pos := "l6_aes.go:213", after := #[{ on := 2, ground := Ground.data }, { on := 1, ground := Ground.chain }], guard := none }) rfl (fun K' hK' => ?_) ?_
      · go_simp
        refine (gridOf_ok t _ ht).mono ?_
        rintro e w73 ⟨rfl, HB74'⟩
        have HB74 := HB72.trans (HB74'.mono HB72.size)
        have Tw73 := RBlater Tw71 HB74'
        have Kw73 := Kw71.later HB74'
        refine hK'.out _ _ HB74 (fun _ => ?_)
        clear hK' K'
        try simp only [Act.put, List.setIfInBounds_toArray, List.set_cons_zero, List.set_cons_succ]
        refine wpAnyH_ready (rs := [5, 6, 7]) (by kernel_rfl) (by simp) ?_
        refine AllReadyH.cons (o := { dst := some 14, op := Op.call { callee := Callee.value (Operand.func 99), args := #[Operand.tmp 13], argTypes := #[9] }, type := 114, pos := "l6_aes.go:213", after := #[{ on := 4, ground := Ground.data }, { on := 3, ground := Ground.chain }], guard := none }) rfl (fun K' hK' => ?_) ?_
        · go_simp
          refine (gridsOf_no u _ hu hu1).mono ?_
          rintro e w75 ⟨⟨u0, pv, rfl⟩, HB76⟩
          first | exact ⟨⟨_, _, rfl⟩, HB74.trans (HB76.mono HB74.size)⟩ | exact ⟨⟨_, _, rfl⟩, HB74.trans (HB76.mono HB74.size), rfl⟩ | exact ⟨HB74.trans (HB76.mono HB74.size), rfl⟩ | exact HB74.trans (HB76.mono HB74.size)
        refine AllReadyH.cons (o := { dst := some 4, op := Op.alloc 116, type := 0, pos := "l6_aes.go:213", after := #[], guard := none }) rfl (fun K' hK' => ?_) ?_
        · go_simp
          have HB78 := HB74.alloc HB74.size (.cells #[.pointer none, .slice none 0 0] 116)
          have cBx77 := HB74.size
          have Tx77 := RBlater Tw73 (below_box _ (.cells #[.pointer none, .slice none 0 0] 116))
          have Kx77 := Kw73.later (below_box _ (.cells #[.pointer none, .slice none 0 0] 116))
          have Zx77 := CZ.new w73
          refine hK'.out _ _ HB78 (fun _ => ?_)
          clear hK' K'
          try simp only [Act.put, List.setIfInBounds_toArray, List.set_cons_zero, List.set_cons_succ]
          refine wpAnyH_ready (rs := [5, 7]) (by kernel_rfl) (by simp) ?_
          refine AllReadyH.cons (o := { dst := some 14, op := Op.call { callee := Callee.value (Operand.func 99), args := #[Operand.tmp 13], argTypes := #[9] }, type := 114, pos := "l6_aes.go:213", after := #[{ on := 4, ground := Ground.data }, { on := 3, ground := Ground.chain }], guard := none }) rfl (fun K' hK' => ?_) ?_
          · go_simp
            refine (gridsOf_no u _ hu hu1).mono ?_
            rintro e w79 ⟨⟨u0, pv, rfl⟩, HB80⟩
            first | exact ⟨⟨_, _, rfl⟩, HB78.trans (HB80.mono HB78.size)⟩ | exact ⟨⟨_, _, rfl⟩, HB78.trans (HB80.mono HB78.size), rfl⟩ | exact ⟨HB78.trans (HB80.mono HB78.size), rfl⟩ | exact HB78.trans (HB80.mono HB78.size)
          refine AllReadyH.cons (o := { dst := some 5, op := Op.alloc 119, type := 0, pos := "l6_aes.go:213", after := #[], guard := none }) rfl (fun K' hK' => ?_) AllReadyH.nil
          go_simp
          have HB82 := HB78.alloc HB78.size (.cells #[.int .u8 0, .int .u8 0, .int .u8 0, .int .u8 0, .int .u8 0, .int .u8 0, .int .u8 0, .int .u8 0, .int .u8 0, .int .u8 0, .int .u8 0, .int .u8 0, .int .u8 0, .int .u8 0, .int .u8 0, .int .u8 0] 119)
          have aBx81 := HB78.size
          have Tx81 := RBlater Tx77 (below_box _ (.cells #[.int .u8 0, .int .u8 0, .int .u8 0, .int .u8 0, .int .u8 0, .int .u8 0, .int .u8 0, .int .u8 0, .int .u8 0, .int .u8 0, .int .u8 0, .int .u8 0, .int .u8 0, .int .u8 0, .int .u8 0, .int .u8 0] 119))
          have Kx81 := Kx77.later (below_box _ (.cells #[.int .u8 0, .int .u8 0, .int .u8 0, .int .u8 0, .int .u8 0, .int .u8 0, .int .u8 0, .int .u8 0, .int .u8 0, .int .u8 0, .int .u8 0, .int .u8 0, .int .u8 0, .int .u8 0, .int .u8 0, .int .u8 0] 119))
          have Zx81 := Zx77.later (below_box _ (.cells #[.int .u8 0, .int .u8 0, .int .u8 0, .int .u8 0, .int .u8 0, .int .u8 0, .int .u8 0, .int .u8 0, .int .u8 0, .int .u8 0, .int .u8 0, .int .u8 0, .int .u8 0, .int .u8 0, .int .u8 0, .int .u8 0] 119))
          have Rx81 : RB ((w73.alloc (.cells #[.pointer none, .slice none 0 0] 116)).alloc (.cells #[.int .u8 0, .int .u8 0, .int .u8 0, .int .u8 0, .int .u8 0, .int .u8 0, .int .u8 0, .int .u8 0, .int .u8 0, .int .u8 0, .int .u8 0, .int .u8 0, .int .u8 0, .int .u8 0, .int .u8 0, .int .u8 0] 119)) (w73.alloc (.cells #[.pointer none, .slice none 0 0] 116)).heap.size 16 119 (fun _ => 0) := by
            rw [zeroG]; exact RB.new (w73.alloc (.cells #[.pointer none, .slice none 0 0] 116)) 16 _ _
          have qx81 : (w73.alloc (.cells #[.pointer none, .slice none 0 0] 116)).heap.size = (w73.heap.size + 1) := by simp
          rw [qx81] at Rx81 aBx81
          refine hK'.out _ _ HB82 (fun _ => ?_)
          clear hK' K'
          try simp only [Act.put, List.setIfInBounds_toArray, List.set_cons_zero, List.set_cons_succ]
          refine wpAnyH_ready (rs := [5]) (by kernel_rfl) (by simp) ?_
          refine AllReadyH.cons (o := { dst := some 14, op := Op.call { callee := Callee.value (Operand.func 99), args := #[Operand.tmp 13], argTypes := #[9] }, type := 114, pos := "l6_aes.go:213", after := #[{ on := 4, ground := Ground.data }, { on := 3, ground := Ground.chain }], guard := none }) rfl (fun K' hK' => ?_) AllReadyH.nil
          go_simp
          refine (gridsOf_no u _ hu hu1).mono ?_
          rintro e w83 ⟨⟨u0, pv, rfl⟩, HB84⟩
          first | exact ⟨⟨_, _, rfl⟩, HB82.trans (HB84.mono HB82.size)⟩ | exact ⟨⟨_, _, rfl⟩, HB82.trans (HB84.mono HB82.size), rfl⟩ | exact ⟨HB82.trans (HB84.mono HB82.size), rfl⟩ | exact HB82.trans (HB84.mono HB82.size)
        refine AllReadyH.cons (o := { dst := some 5, op := Op.alloc 119, type := 0, pos := "l6_aes.go:213", after := #[], guard := none }) rfl (fun K' hK' => ?_) AllReadyH.nil
        go_simp
        have HB86 := HB74.alloc HB74.size (.cells #[.int .u8 0, .int .u8 0, .int .u8 0, .int .u8 0, .int .u8 0, .int .u8 0, .int .u8 0, .int .u8 0, .int .u8 0, .int .u8 0, .int .u8 0, .int .u8 0, .int .u8 0, .int .u8 0, .int .u8 0, .int .u8 0] 119)
        have aBx85 := HB74.size
        have Tx85 := RBlater Tw73 (below_box _ (.cells #[.int .u8 0, .int .u8 0, .int .u8 0, .int .u8 0, .int .u8 0, .int .u8 0, .int .u8 0, .int .u8 0, .int .u8 0, .int .u8 0, .int .u8 0, .int .u8 0, .int .u8 0, .int .u8 0, .int .u8 0, .int .u8 0] 119))
        have Kx85 := Kw73.later (below_box _ (.cells #[.int .u8 0, .int .u8 0, .int .u8 0, .int .u8 0, .int .u8 0, .int .u8 0, .int .u8 0, .int .u8 0, .int .u8 0, .int .u8 0, .int .u8 0, .int .u8 0, .int .u8 0, .int .u8 0, .int .u8 0, .int .u8 0] 119))
        have Rx85 : RB (w73.alloc (.cells #[.int .u8 0, .int .u8 0, .int .u8 0, .int .u8 0, .int .u8 0, .int .u8 0, .int .u8 0, .int .u8 0, .int .u8 0, .int .u8 0, .int .u8 0, .int .u8 0, .int .u8 0, .int .u8 0, .int .u8 0, .int .u8 0] 119)) w73.heap.size 16 119 (fun _ => 0) := by
          rw [zeroG]; exact RB.new w73 16 _ _
        refine hK'.out _ _ HB86 (fun _ => ?_)
        clear hK' K'
        try simp only [Act.put, List.setIfInBounds_toArray, List.set_cons_zero, List.set_cons_succ]
        refine wpAnyH_ready (rs := [5, 6]) (by kernel_rfl) (by simp) ?_
        refine AllReadyH.cons (o := { dst := some 14, op := Op.call { callee := Callee.value (Operand.func 99), args := #[Operand.tmp 13], argTypes := #[9] }, type := 114, pos := "l6_aes.go:213", after := #[{ on := 4, ground := Ground.data }, { on := 3, ground := Ground.chain }], guard := none }) rfl (fun K' hK' => ?_) ?_
        · go_simp
          refine (gridsOf_no u _ hu hu1).mono ?_
          rintro e w87 ⟨⟨u0, pv, rfl⟩, HB88⟩
          first | exact ⟨⟨_, _, rfl⟩, HB86.trans (HB88.mono HB86.size)⟩ | exact ⟨⟨_, _, rfl⟩, HB86.trans (HB88.mono HB86.size), rfl⟩ | exact ⟨HB86.trans (HB88.mono HB86.size), rfl⟩ | exact HB86.trans (HB88.mono HB86.size)
        refine AllReadyH.cons (o := { dst := some 4, op := Op.alloc 116, type := 0, pos := "l6_aes.go:213", after := #[], guard := none }) rfl (fun K' hK' => ?_) AllReadyH.nil
        go_simp
        have HB90 := HB86.alloc HB86.size (.cells #[.pointer none, .slice none 0 0] 116)
        have cBx89 := HB86.size
        have Tx89 := RBlater Tx85 (below_box _ (.cells #[.pointer none, .slice none 0 0] 116))
        have Kx89 := Kx85.later (below_box _ (.cells #[.pointer none, .slice none 0 0] 116))
        have Rx89 := RBlater Rx85 (below_box _ (.cells #[.pointer none, .slice none 0 0] 116))
        have qx89 : (w73.alloc (.cells #[.int .u8 0, .int .u8 0, .int .u8 0, .int .u8 0, .int .u8 0, .int .u8 0, .int .u8 0, .int .u8 0, .int .u8 0, .int .u8 0, .int .u8 0, .int .u8 0, .int .u8 0, .int .u8 0, .int .u8 0, .int .u8 0] 119)).heap.size = (w73.heap.size + 1) := by simp
        have Zx89 : CZ ((w73.alloc (.cells #[.int .u8 0, .int .u8 0, .int .u8 0, .int .u8 0, .int .u8 0, .int .u8 0, .int .u8 0, .int .u8 0, .int .u8 0, .int .u8 0, .int .u8 0, .int .u8 0, .int .u8 0, .int .u8 0, .int .u8 0, .int .u8 0] 119)).alloc (.cells #[.pointer none, .slice none 0 0] 116)) (w73.heap.size + 1) := by have := CZ.new (w73.alloc (.cells #[.int .u8 0, .int .u8 0, .int .u8 0, .int .u8 0, .int .u8 0, .int .u8 0, .int .u8 0, .int .u8 0, .int .u8 0, .int .u8 0, .int .u8 0, .int .u8 0, .int .u8 0, .int .u8 0, .int .u8 0, .int .u8 0] 119)); rw [qx89] at this; exact this
        rw [qx89] at cBx89
        refine hK'.out _ _ HB90 (fun _ => ?_)
        clear hK' K'
        try simp only [Act.put, List.setIfInBounds_toArray, List.set_cons_zero, List.set_cons_succ]
        refine wpAnyH_ready (rs := [5]) (by kernel_rfl) (by simp) ?_
        refine AllReadyH.cons (o := { dst := some 14, op := Op.call { callee := Callee.value (Operand.func 99), args := #[Operand.tmp 13], argTypes := #[9] }, type := 114, pos := "l6_aes.go:213", after := #[{ on := 4, ground := Ground.data }, { on := 3, ground := Ground.chain }], guard := none }) rfl (fun K' hK' => ?_) AllReadyH.nil
        go_simp
        refine (gridsOf_no u _ hu hu1).mono ?_
        rintro e w91 ⟨⟨u0, pv, rfl⟩, HB92⟩
        first | exact ⟨⟨_, _, rfl⟩, HB90.trans (HB92.mono HB90.size)⟩ | exact ⟨⟨_, _, rfl⟩, HB90.trans (HB92.mono HB90.size), rfl⟩ | exact ⟨HB90.trans (HB92.mono HB90.size), rfl⟩ | exact HB90.trans (HB92.mono HB90.size)
      refine AllReadyH.cons (o := { dst := some 4, op := Op.alloc 116, type := 0, pos := "l6_aes.go:213", after := #[], guard := none }) rfl (fun K' hK' => ?_) ?_
      · go_simp
        have HB94 := HB72.alloc HB72.size (.cells #[.pointer none, .slice none 0 0] 116)
        have cBx93 := HB72.size
        have Tx93 := RBlater Tw71 (below_box _ (.cells #[.pointer none, .slice none 0 0] 116))
        have Kx93 := Kw71.later (below_box _ (.cells #[.pointer none, .slice none 0 0] 116))
        have Zx93 := CZ.new w71
        refine hK'.out _ _ HB94 (fun _ => ?_)
        clear hK' K'
        try simp only [Act.put, List.setIfInBounds_toArray, List.set_cons_zero, List.set_cons_succ]
        refine wpAnyH_ready (rs := [3, 7]) (by kernel_rfl) (by simp) ?_
        refine AllReadyH.cons (o := { dst := some 12, op := Op.call { callee := Callee.value (Operand.func 98), args := #[Operand.tmp 11], argTypes := #[9] }, type := 119, pos := "l6_aes.go:213", after := #[{ on := 2, ground := Ground.data }, { on := 1, ground := Ground.chain }], guard := none }) rfl (fun K' hK' => ?_) ?_
        · go_simp
          refine (gridOf_ok t _ ht).mono ?_
          rintro e w95 ⟨rfl, HB96'⟩
          have HB96 := HB94.trans (HB96'.mono HB94.size)
          have Tw95 := RBlater Tx93 HB96'
          have Kw95 := Kx93.later HB96'
          have Zw95 := Zx93.later HB96'
          refine hK'.out _ _ HB96 (fun _ => ?_)
          clear hK' K'
          try simp only [Act.put, List.setIfInBounds_toArray, List.set_cons_zero, List.set_cons_succ]
          refine wpAnyH_ready (rs := [5, 7]) (by kernel_rfl) (by simp) ?_
          refine AllReadyH.cons (o := { dst := some 14, op := Op.call { callee := Callee.value (Operand.func 99), args := #[Operand.tmp 13], argTypes := #[9] }, type := 114, pos := "l6_aes.go:213", after := #[{ on := 4, ground := Ground.data }, { on := 3, ground := Ground.chain }], guard := none }) rfl (fun K' hK' => ?_) ?_
          · go_simp
            refine (gridsOf_no u _ hu hu1).mono ?_
            rintro e w97 ⟨⟨u0, pv, rfl⟩, HB98⟩
            first | exact ⟨⟨_, _, rfl⟩, HB96.trans (HB98.mono HB96.size)⟩ | exact ⟨⟨_, _, rfl⟩, HB96.trans (HB98.mono HB96.size), rfl⟩ | exact ⟨HB96.trans (HB98.mono HB96.size), rfl⟩ | exact HB96.trans (HB98.mono HB96.size)
          refine AllReadyH.cons (o := { dst := some 5, op := Op.alloc 119, type := 0, pos := "l6_aes.go:213", after := #[], guard := none }) rfl (fun K' hK' => ?_) AllReadyH.nil
          go_simp
          have HB100 := HB96.alloc HB96.size (.cells #[.int .u8 0, .int .u8 0, .int .u8 0, .int .u8 0, .int .u8 0, .int .u8 0, .int .u8 0, .int .u8 0, .int .u8 0, .int .u8 0, .int .u8 0, .int .u8 0, .int .u8 0, .int .u8 0, .int .u8 0, .int .u8 0] 119)
          have aBx99 := HB96.size
          have Tx99 := RBlater Tw95 (below_box _ (.cells #[.int .u8 0, .int .u8 0, .int .u8 0, .int .u8 0, .int .u8 0, .int .u8 0, .int .u8 0, .int .u8 0, .int .u8 0, .int .u8 0, .int .u8 0, .int .u8 0, .int .u8 0, .int .u8 0, .int .u8 0, .int .u8 0] 119))
          have Kx99 := Kw95.later (below_box _ (.cells #[.int .u8 0, .int .u8 0, .int .u8 0, .int .u8 0, .int .u8 0, .int .u8 0, .int .u8 0, .int .u8 0, .int .u8 0, .int .u8 0, .int .u8 0, .int .u8 0, .int .u8 0, .int .u8 0, .int .u8 0, .int .u8 0] 119))
          have Zx99 := Zw95.later (below_box _ (.cells #[.int .u8 0, .int .u8 0, .int .u8 0, .int .u8 0, .int .u8 0, .int .u8 0, .int .u8 0, .int .u8 0, .int .u8 0, .int .u8 0, .int .u8 0, .int .u8 0, .int .u8 0, .int .u8 0, .int .u8 0, .int .u8 0] 119))
          have Rx99 : RB (w95.alloc (.cells #[.int .u8 0, .int .u8 0, .int .u8 0, .int .u8 0, .int .u8 0, .int .u8 0, .int .u8 0, .int .u8 0, .int .u8 0, .int .u8 0, .int .u8 0, .int .u8 0, .int .u8 0, .int .u8 0, .int .u8 0, .int .u8 0] 119)) w95.heap.size 16 119 (fun _ => 0) := by
            rw [zeroG]; exact RB.new w95 16 _ _
          refine hK'.out _ _ HB100 (fun _ => ?_)
          clear hK' K'
          try simp only [Act.put, List.setIfInBounds_toArray, List.set_cons_zero, List.set_cons_succ]
          refine wpAnyH_ready (rs := [5]) (by kernel_rfl) (by simp) ?_
          refine AllReadyH.cons (o := { dst := some 14, op := Op.call { callee := Callee.value (Operand.func 99), args := #[Operand.tmp 13], argTypes := #[9] }, type := 114, pos := "l6_aes.go:213", after := #[{ on := 4, ground := Ground.data }, { on := 3, ground := Ground.chain }], guard := none }) rfl (fun K' hK' => ?_) AllReadyH.nil
          go_simp
          refine (gridsOf_no u _ hu hu1).mono ?_
          rintro e w101 ⟨⟨u0, pv, rfl⟩, HB102⟩
          first | exact ⟨⟨_, _, rfl⟩, HB100.trans (HB102.mono HB100.size)⟩ | exact ⟨⟨_, _, rfl⟩, HB100.trans (HB102.mono HB100.size), rfl⟩ | exact ⟨HB100.trans (HB102.mono HB100.size), rfl⟩ | exact HB100.trans (HB102.mono HB100.size)
        refine AllReadyH.cons (o := { dst := some 5, op := Op.alloc 119, type := 0, pos := "l6_aes.go:213", after := #[], guard := none }) rfl (fun K' hK' => ?_) AllReadyH.nil
        go_simp
        have HB104 := HB94.alloc HB94.size (.cells #[.int .u8 0, .int .u8 0, .int .u8 0, .int .u8 0, .int .u8 0, .int .u8 0, .int .u8 0, .int .u8 0, .int .u8 0, .int .u8 0, .int .u8 0, .int .u8 0, .int .u8 0, .int .u8 0, .int .u8 0, .int .u8 0] 119)
        have aBx103 := HB94.size
        have Tx103 := RBlater Tx93 (below_box _ (.cells #[.int .u8 0, .int .u8 0, .int .u8 0, .int .u8 0, .int .u8 0, .int .u8 0, .int .u8 0, .int .u8 0, .int .u8 0, .int .u8 0, .int .u8 0, .int .u8 0, .int .u8 0, .int .u8 0, .int .u8 0, .int .u8 0] 119))
        have Kx103 := Kx93.later (below_box _ (.cells #[.int .u8 0, .int .u8 0, .int .u8 0, .int .u8 0, .int .u8 0, .int .u8 0, .int .u8 0, .int .u8 0, .int .u8 0, .int .u8 0, .int .u8 0, .int .u8 0, .int .u8 0, .int .u8 0, .int .u8 0, .int .u8 0] 119))
        have Zx103 := Zx93.later (below_box _ (.cells #[.int .u8 0, .int .u8 0, .int .u8 0, .int .u8 0, .int .u8 0, .int .u8 0, .int .u8 0, .int .u8 0, .int .u8 0, .int .u8 0, .int .u8 0, .int .u8 0, .int .u8 0, .int .u8 0, .int .u8 0, .int .u8 0] 119))
        have Rx103 : RB ((w71.alloc (.cells #[.pointer none, .slice none 0 0] 116)).alloc (.cells #[.int .u8 0, .int .u8 0, .int .u8 0, .int .u8 0, .int .u8 0, .int .u8 0, .int .u8 0, .int .u8 0, .int .u8 0, .int .u8 0, .int .u8 0, .int .u8 0, .int .u8 0, .int .u8 0, .int .u8 0, .int .u8 0] 119)) (w71.alloc (.cells #[.pointer none, .slice none 0 0] 116)).heap.size 16 119 (fun _ => 0) := by
          rw [zeroG]; exact RB.new (w71.alloc (.cells #[.pointer none, .slice none 0 0] 116)) 16 _ _
        have qx103 : (w71.alloc (.cells #[.pointer none, .slice none 0 0] 116)).heap.size = (w71.heap.size + 1) := by simp
        rw [qx103] at Rx103 aBx103
        refine hK'.out _ _ HB104 (fun _ => ?_)
        clear hK' K'
        try simp only [Act.put, List.setIfInBounds_toArray, List.set_cons_zero, List.set_cons_succ]
        refine wpAnyH_ready (rs := [3]) (by kernel_rfl) (by simp) ?_
        refine AllReadyH.cons (o := { dst := some 12, op := Op.call { callee := Callee.value (Operand.func 98), args := #[Operand.tmp 11], argTypes := #[9] }, type := 119, pos := "l6_aes.go:213", after := #[{ on := 2, ground := Ground.data }, { on := 1, ground := Ground.chain }], guard := none }) rfl (fun K' hK' => ?_) AllReadyH.nil
        go_simp
        refine (gridOf_ok t _ ht).mono ?_
        rintro e w105 ⟨rfl, HB106'⟩
        have HB106 := HB104.trans (HB106'.mono HB104.size)
        have Tw105 := RBlater Tx103 HB106'
        have Kw105 := Kx103.later HB106'
        have Rw105 := RBlater Rx103 HB106'
        have Zw105 := Zx103.later HB106'
        refine hK'.out _ _ HB106 (fun _ => ?_)
        clear hK' K'
        try simp only [Act.put, List.setIfInBounds_toArray, List.set_cons_zero, List.set_cons_succ]
        refine wpAnyH_ready (rs := [5]) (by kernel_rfl) (by simp) ?_
        refine AllReadyH.cons (o := { dst := some 14, op := Op.call { callee := Callee.value (Operand.func 99), args := #[Operand.tmp 13], argTypes := #[9] }, type := 114, pos := "l6_aes.go:213", after := #[{ on := 4, ground := Ground.data }, { on := 3, ground := Ground.chain }], guard := none }) rfl (fun K' hK' => ?_) AllReadyH.nil
        go_simp
        refine (gridsOf_no u _ hu hu1).mono ?_
        rintro e w107 ⟨⟨u0, pv, rfl⟩, HB108⟩
        first | exact ⟨⟨_, _, rfl⟩, HB106.trans (HB108.mono HB106.size)⟩ | exact ⟨⟨_, _, rfl⟩, HB106.trans (HB108.mono HB106.size), rfl⟩ | exact ⟨HB106.trans (HB108.mono HB106.size), rfl⟩ | exact HB106.trans (HB108.mono HB106.size)
      refine AllReadyH.cons (o := { dst := some 5, op := Op.alloc 119, type := 0, pos := "l6_aes.go:213", after := #[], guard := none }) rfl (fun K' hK' => ?_) AllReadyH.nil
      go_simp
      have HB110 := HB72.alloc HB72.size (.cells #[.int .u8 0, .int .u8 0, .int .u8 0, .int .u8 0, .int .u8 0, .int .u8 0, .int .u8 0, .int .u8 0, .int .u8 0, .int .u8 0, .int .u8 0, .int .u8 0, .int .u8 0, .int .u8 0, .int .u8 0, .int .u8 0] 119)
      have aBx109 := HB72.size
      have Tx109 := RBlater Tw71 (below_box _ (.cells #[.int .u8 0, .int .u8 0, .int .u8 0, .int .u8 0, .int .u8 0, .int .u8 0, .int .u8 0, .int .u8 0, .int .u8 0, .int .u8 0, .int .u8 0, .int .u8 0, .int .u8 0, .int .u8 0, .int .u8 0, .int .u8 0] 119))
      have Kx109 := Kw71.later (below_box _ (.cells #[.int .u8 0, .int .u8 0, .int .u8 0, .int .u8 0, .int .u8 0, .int .u8 0, .int .u8 0, .int .u8 0, .int .u8 0, .int .u8 0, .int .u8 0, .int .u8 0, .int .u8 0, .int .u8 0, .int .u8 0, .int .u8 0] 119))
      have Rx109 : RB (w71.alloc (.cells #[.int .u8 0, .int .u8 0, .int .u8 0, .int .u8 0, .int .u8 0, .int .u8 0, .int .u8 0, .int .u8 0, .int .u8 0, .int .u8 0, .int .u8 0, .int .u8 0, .int .u8 0, .int .u8 0, .int .u8 0, .int .u8 0] 119)) w71.heap.size 16 119 (fun _ => 0) := by
        rw [zeroG]; exact RB.new w71 16 _ _
      refine hK'.out _ _ HB110 (fun _ => ?_)
      clear hK' K'
      try simp only [Act.put, List.setIfInBounds_toArray, List.set_cons_zero, List.set_cons_succ]
      refine wpAnyH_ready (rs := [3, 6]) (by kernel_rfl) (by simp) ?_
      refine AllReadyH.cons (o := { dst := some 12, op := Op.call { callee := Callee.value (Operand.func 98), args := #[Operand.tmp 11], argTypes := #[9] }, type := 119, pos := "l6_aes.go:213", after := #[{ on := 2, ground := Ground.data }, { on := 1, ground := Ground.chain }], guard := none }) rfl (fun K' hK' => ?_) ?_
      · go_simp
        refine (gridOf_ok t _ ht).mono ?_
        rintro e w111 ⟨rfl, HB112'⟩
        have HB112 := HB110.trans (HB112'.mono HB110.size)
        have Tw111 := RBlater Tx109 HB112'
        have Kw111 := Kx109.later HB112'
        have Rw111 := RBlater Rx109 HB112'
        refine hK'.out _ _ HB112 (fun _ => ?_)
        clear hK' K'
        try simp only [Act.put, List.setIfInBounds_toArray, List.set_cons_zero, List.set_cons_succ]
        refine wpAnyH_ready (rs := [5, 6]) (by kernel_rfl) (by simp) ?_
        refine AllReadyH.cons (o := { dst := some 14, op := Op.call { callee := Callee.value (Operand.func 99), args := #[Operand.tmp 13], argTypes := #[9] }, type := 114, pos := "l6_aes.go:213", after := #[{ on := 4, ground := Ground.data }, { on := 3, ground := Ground.chain }], guard := none }) rfl (fun K' hK' => ?_) ?_
        · go_simp
          refine (gridsOf_no u _ hu hu1).mono ?_
          rintro e w113 ⟨⟨u0, pv, rfl⟩, HB114⟩
          first | exact ⟨⟨_, _, rfl⟩, HB112.trans (HB114.mono HB112.size)⟩ | exact ⟨⟨_, _, rfl⟩, HB112.trans (HB114.mono HB112.size), rfl⟩ | exact ⟨HB112.trans (HB114.mono HB112.size), rfl⟩ | exact HB112.trans (HB114.mono HB112.size)
        refine AllReadyH.cons (o := { dst := some 4, op := Op.alloc 116, type := 0, pos := "l6_aes.go:213", after := #[], guard := none }) rfl (fun K' hK' => ?_) AllReadyH.nil
        go_simp
        have HB116 := HB112.alloc HB112.size (.cells #[.pointer none, .slice none 0 0] 116)
        have cBx115 := HB112.size
        have Tx115 := RBlater Tw111 (below_box _ (.cells #[.pointer none, .slice none 0 0] 116))
        have Kx115 := Kw111.later (below_box _ (.cells #[.pointer none, .slice none 0 0] 116))
        have Rx115 := RBlater Rw111 (below_box _ (.cells #[.pointer none, .slice none 0 0] 116))
        have Zx115 := CZ.new w111
        refine hK'.out _ _ HB116 (fun _ => ?_)
        clear hK' K'
        try simp only [Act.put, List.setIfInBounds_toArray, List.set_cons_zero, List.set_cons_succ]
        refine wpAnyH_ready (rs := [5]) (by kernel_rfl) (by simp) ?_
        refine AllReadyH.cons (o := { dst := some 14, op := Op.call { callee := Callee.value (Operand.func 99), args := #[Operand.tmp 13], argTypes := #[9] }, type := 114, pos := "l6_aes.go:213", after := #[{ on := 4, ground := Ground.data }, { on := 3, ground := Ground.chain }], guard := none }) rfl (fun K' hK' => ?_) AllReadyH.nil
        go_simp
        refine (gridsOf_no u _ hu hu1).mono ?_
        rintro e w117 ⟨⟨u0, pv, rfl⟩, HB118⟩
        first | exact ⟨⟨_, _, rfl⟩, HB116.trans (HB118.mono HB116.size)⟩ | exact ⟨⟨_, _, rfl⟩, HB116.trans (HB118.mono HB116.size), rfl⟩ | exact ⟨HB116.trans (HB118.mono HB116.size), rfl⟩ | exact HB116.trans (HB118.mono HB116.size)
      refine AllReadyH.cons (o := { dst := some 4, op := Op.alloc 116, type := 0, pos := "l6_aes.go:213", after := #[], guard := none }) rfl (fun K' hK' => ?_) AllReadyH.nil
      go_simp
      have HB120 := HB110.alloc HB110.size (.cells #[.pointer none, .slice none 0 0] 116)
      have cBx119 := HB110.size
      have Tx119 := RBlater Tx109 (below_box _ (.cells #[.pointer none, .slice none 0 0] 116))
      have Kx119 := Kx109.later (below_box _ (.cells #[.pointer none, .slice none 0 0] 116))
      have Rx119 := RBlater Rx109 (below_box _ (.cells #[.pointer none, .slice none 0 0] 116))
      have qx119 : (w71.alloc (.cells #[.int .u8 0, .int .u8 0, .int .u8 0, .int .u8 0, .int .u8 0, .int .u8 0, .int .u8 0, .int .u8 0, .int .u8 0, .int .u8 0, .int .u8 0, .int .u8 0, .int .u8 0, .int .u8 0, .int .u8 0, .int .u8 0] 119)).heap.size = (w71.heap.size + 1) := by simp
      have Zx119 : CZ ((w71.alloc (.cells #[.int .u8 0, .int .u8 0, .int .u8 0, .int .u8 0, .int .u8 0, .int .u8 0, .int .u8 0, .int .u8 0, .int .u8 0, .int .u8 0, .int .u8 0, .int .u8 0, .int .u8 0, .int .u8 0, .int .u8 0, .int .u8 0] 119)).alloc (.cells #[.pointer none, .slice none 0 0] 116)) (w71.heap.size + 1) := by have := CZ.new (w71.alloc (.cells #[.int .u8 0, .int .u8 0, .int .u8 0, .int .u8 0, .int .u8 0, .int .u8 0, .int .u8 0, .int .u8 0, .int .u8 0, .int .u8 0, .int .u8 0, .int .u8 0, .int .u8 0, .int .u8 0, .int .u8 0, .int .u8 0] 119)); rw [qx119] at this; exact this
      rw [qx119] at cBx119
      refine hK'.out _ _ HB120 (fun _ => ?_)
      clear hK' K'
      try simp only [Act.put, List.setIfInBounds_toArray, List.set_cons_zero, List.set_cons_succ]
      refine wpAnyH_ready (rs := [3]) (by kernel_rfl) (by simp) ?_
      refine AllReadyH.cons (o := { dst := some 12, op := Op.call { callee := Callee.value (Operand.func 98), args := #[Operand.tmp 11], argTypes := #[9] }, type := 119, pos := "l6_aes.go:213", after := #[{ on := 2, ground := Ground.data }, { on := 1, ground := Ground.chain }], guard := none }) rfl (fun K' hK' => ?_) AllReadyH.nil
      go_simp
      refine (gridOf_ok t _ ht).mono ?_
      rintro e w121 ⟨rfl, HB122'⟩
      have HB122 := HB120.trans (HB122'.mono HB120.size)
      have Tw121 := RBlater Tx119 HB122'
      have Kw121 := Kx119.later HB122'
      have Rw121 := RBlater Rx119 HB122'
      have Zw121 := Zx119.later HB122'
      refine hK'.out _ _ HB122 (fun _ => ?_)
      clear hK' K'
      try simp only [Act.put, List.setIfInBounds_toArray, List.set_cons_zero, List.set_cons_succ]
      refine wpAnyH_ready (rs := [5]) (by kernel_rfl) (by simp) ?_
      refine AllReadyH.cons (o := { dst := some 14, op := Op.call { callee := Callee.value (Operand.func 99), args := #[Operand.tmp 13], argTypes := #[9] }, type := 114, pos := "l6_aes.go:213", after := #[{ on := 4, ground := Ground.data }, { on := 3, ground := Ground.chain }], guard := none }) rfl (fun K' hK' => ?_) AllReadyH.nil
      go_simp
      refine (gridsOf_no u _ hu hu1).mono ?_
      rintro e w123 ⟨⟨u0, pv, rfl⟩, HB124⟩
      first | exact ⟨⟨_, _, rfl⟩, HB122.trans (HB124.mono HB122.size)⟩ | exact ⟨⟨_, _, rfl⟩, HB122.trans (HB124.mono HB122.size), rfl⟩ | exact ⟨HB122.trans (HB124.mono HB122.size), rfl⟩ | exact HB122.trans (HB124.mono HB122.size)
    refine AllReadyH.cons (o := { dst := some 4, op := Op.alloc 116, type := 0, pos := "l6_aes.go:213", after := #[], guard := none }) rfl (fun K' hK' => ?_) ?_
    · go_simp
      have HB126 := H0.alloc H0.size (.cells #[.pointer none, .slice none 0 0] 116)
      have cBx125 := H0.size
      have Zx125 := CZ.new w.drew
      refine hK'.out _ _ HB126 (fun _ => ?_)
      clear hK' K'
      try simp only [Act.put, List.setIfInBounds_toArray, List.set_cons_zero, List.set_cons_succ]
      refine wpAnyH_ready (rs := [1, 7]) (by kernel_rfl) (by simp) ?_
      refine AllReadyH.cons (o := { dst := some 10, op := Op.call { callee := Callee.value (Operand.func 97), args := #[Operand.tmp 9], argTypes := #[9] }, type := 116, pos := "l6_aes.go:213", after := #[{ on := 0, ground := Ground.data }], guard := none }) rfl (fun K' hK' => ?_) ?_
      · go_simp
        refine (cipherOf_ok s _ hs).mono ?_
        rintro e w127 ⟨gt, gk, cap, rfl, Tw127, Kw127, HB128'⟩
        have HB128 := HB126.trans (HB128'.mono HB126.size)
        have Zw127 := Zx125.later HB128'
        refine hK'.out _ _ HB128 (fun _ => ?_)
        clear hK' K'
        try simp only [Act.put, List.setIfInBounds_toArray, List.set_cons_zero, List.set_cons_succ]
        refine wpAnyH_ready (rs := [3, 7]) (by kernel_rfl) (by simp) ?_
        refine AllReadyH.cons (o := { dst := some 12, op := Op.call { callee := Callee.value (Operand.func 98), args := #[Operand.tmp 11], argTypes := #[9] }, type := 119, pos := "l6_aes.go:213", after := #[{ on := 2, ground := Ground.data }, { on := 1, ground := Ground.chain }], guard := none }) rfl (fun K' hK' => ?_) ?_
        · go_simp
          refine (gridOf_ok t _ ht).mono ?_
          rintro e w129 ⟨rfl, HB130'⟩
          have HB130 := HB128.trans (HB130'.mono HB128.size)
          have Tw129 := RBlater Tw127 HB130'
          have Kw129 := Kw127.later HB130'
          have Zw129 := Zw127.later HB130'
          refine hK'.out _ _ HB130 (fun _ => ?_)
          clear hK' K'
          try simp only [Act.put, List.setIfInBounds_toArray, List.set_cons_zero, List.set_cons_succ]
          refine wpAnyH_ready (rs := [5, 7]) (by kernel_rfl) (by simp) ?_
          refine AllReadyH.cons (o := { dst := some 14, op := Op.call { callee := Callee.value (Operand.func 99), args := #[Operand.tmp 13], argTypes := #[9] }, type := 114, pos := "l6_aes.go:213", after := #[{ on := 4, ground := Ground.data }, { on := 3, ground := Ground.chain }], guard := none }) rfl (fun K' hK' => ?_) ?_
          · go_simp
            refine (gridsOf_no u _ hu hu1).mono ?_
            rintro e w131 ⟨⟨u0, pv, rfl⟩, HB132⟩
            first | exact ⟨⟨_, _, rfl⟩, HB130.trans (HB132.mono HB130.size)⟩ | exact ⟨⟨_, _, rfl⟩, HB130.trans (HB132.mono HB130.size), rfl⟩ | exact ⟨HB130.trans (HB132.mono HB130.size), rfl⟩ | exact HB130.trans (HB132.mono HB130.size)
          refine AllReadyH.cons (o := { dst := some 5, op := Op.alloc 119, type := 0, pos := "l6_aes.go:213", after := #[], guard := none }) rfl (fun K' hK' => ?_) AllReadyH.nil
          go_simp
          have HB134 := HB130.alloc HB130.size (.cells #[.int .u8 0, .int .u8 0, .int .u8 0, .int .u8 0, .int .u8 0, .int .u8 0, .int .u8 0, .int .u8 0, .int .u8 0, .int .u8 0, .int .u8 0, .int .u8 0, .int .u8 0, .int .u8 0, .int .u8 0, .int .u8 0] 119)
          have aBx133 := HB130.size
          have Tx133 := RBlater Tw129 (below_box _ (.cells #[.int .u8 0, .int .u8 0, .int .u8 0, .int .u8 0, .int .u8 0, .int .u8 0, .int .u8 0, .int .u8 0, .int .u8 0, .int .u8 0, .int .u8 0, .int .u8 0, .int .u8 0, .int .u8 0, .int .u8 0, .int .u8 0] 119))
          have Kx133 := Kw129.later (below_box _ (.cells #[.int .u8 0, .int .u8 0, .int .u8 0, .int .u8 0, .int .u8 0, .int .u8 0, .int .u8 0, .int .u8 0, .int .u8 0, .int .u8 0, .int .u8 0, .int .u8 0, .int .u8 0, .int .u8 0, .int .u8 0, .int .u8 0] 119))
          have Zx133 := Zw129.later (below_box _ (.cells #[.int .u8 0, .int .u8 0, .int .u8 0, .int .u8 0, .int .u8 0, .int .u8 0, .int .u8 0, .int .u8 0, .int .u8 0, .int .u8 0, .int .u8 0, .int .u8 0, .int .u8 0, .int .u8 0, .int .u8 0, .int .u8 0] 119))
          have Rx133 : RB (w129.alloc (.cells #[.int .u8 0, .int .u8 0, .int .u8 0, .int .u8 0, .int .u8 0, .int .u8 0, .int .u8 0, .int .u8 0, .int .u8 0, .int .u8 0, .int .u8 0, .int .u8 0, .int .u8 0, .int .u8 0, .int .u8 0, .int .u8 0] 119)) w129.heap.size 16 119 (fun _ => 0) := by
            rw [zeroG]; exact RB.new w129 16 _ _
          refine hK'.out _ _ HB134 (fun _ => ?_)
          clear hK' K'
          try simp only [Act.put, List.setIfInBounds_toArray, List.set_cons_zero, List.set_cons_succ]
          refine wpAnyH_ready (rs := [5]) (by kernel_rfl) (by simp) ?_
          refine AllReadyH.cons (o := { dst := some 14, op := Op.call { callee := Callee.value (Operand.func 99), args := #[Operand.tmp 13], argTypes := #[9] }, type := 114, pos := "l6_aes.go:213", after := #[{ on := 4, ground := Ground.data }, { on := 3, ground := Ground.chain }], guard := none }) rfl (fun K' hK' => ?_) AllReadyH.nil
          go_simp
          refine (gridsOf_no u _ hu hu1).mono ?_
          rintro e w135 ⟨⟨u0, pv, rfl⟩, HB136⟩
          first | exact ⟨⟨_, _, rfl⟩, HB134.trans (HB136.mono HB134.size)⟩ | exact ⟨⟨_, _, rfl⟩, HB134.trans (HB136.mono HB134.size), rfl⟩ | exact ⟨HB134.trans (HB136.mono HB134.size), rfl⟩ | exact HB134.trans (HB136.mono HB134.size)
        refine AllReadyH.cons (o := { dst := some 5, op := Op.alloc 119, type := 0, pos := "l6_aes.go:213", after := #[], guard := none }) rfl (fun K' hK' => ?_) AllReadyH.nil
        go_simp
        have HB138 := HB128.alloc HB128.size (.cells #[.int .u8 0, .int .u8 0, .int .u8 0, .int .u8 0, .int .u8 0, .int .u8 0, .int .u8 0, .int .u8 0, .int .u8 0, .int .u8 0, .int .u8 0, .int .u8 0, .int .u8 0, .int .u8 0, .int .u8 0, .int .u8 0] 119)
        have aBx137 := HB128.size
        have Tx137 := RBlater Tw127 (below_box _ (.cells #[.int .u8 0, .int .u8 0, .int .u8 0, .int .u8 0, .int .u8 0, .int .u8 0, .int .u8 0, .int .u8 0, .int .u8 0, .int .u8 0, .int .u8 0, .int .u8 0, .int .u8 0, .int .u8 0, .int .u8 0, .int .u8 0] 119))
        have Kx137 := Kw127.later (below_box _ (.cells #[.int .u8 0, .int .u8 0, .int .u8 0, .int .u8 0, .int .u8 0, .int .u8 0, .int .u8 0, .int .u8 0, .int .u8 0, .int .u8 0, .int .u8 0, .int .u8 0, .int .u8 0, .int .u8 0, .int .u8 0, .int .u8 0] 119))
        have Zx137 := Zw127.later (below_box _ (.cells #[.int .u8 0, .int .u8 0, .int .u8 0, .int .u8 0, .int .u8 0, .int .u8 0, .int .u8 0, .int .u8 0, .int .u8 0, .int .u8 0, .int .u8 0, .int .u8 0, .int .u8 0, .int .u8 0, .int .u8 0, .int .u8 0] 119))
        have Rx137 : RB (w127.alloc (.cells #[.int .u8 0, .int .u8 0, .int .u8 0, .int .u8 0, .int .u8 0, .int .u8 0, .int .u8 0, .int .u8 0, .int .u8 0, .int .u8 0, .int .u8 0, .int .u8 0, .int .u8 0, .int .u8 0, .int .u8 0, .int .u8 0] 119)) w127.heap.size 16 119 (fun _ => 0) := by
          rw [zeroG]; exact RB.new w127 16 _ _
        refine hK'.out _ _ HB138 (fun _ => ?_)
        clear hK' K'
        try simp only [Act.put, List.setIfInBounds_toArray, List.set_cons_zero, List.set_cons_succ]
        refine wpAnyH_ready (rs := [3]) (by kernel_rfl) (by simp) ?_
        refine AllReadyH.cons (o := { dst := some 12, op := Op.call { callee := Callee.value (Operand.func 98), args := #[Operand.tmp 11], argTypes := #[9] }, type := 119, pos := "l6_aes.go:213", after := #[{ on := 2, ground := Ground.data }, { on := 1, ground := Ground.chain }], guard := none }) rfl (fun K' hK' => ?_) AllReadyH.nil
        go_simp
        refine (gridOf_ok t _ ht).mono ?_
        rintro e w139 ⟨rfl, HB140'⟩
        have HB140 := HB138.trans (HB140'.mono HB138.size)
        have Tw139 := RBlater Tx137 HB140'
        have Kw139 := Kx137.later HB140'
        have Rw139 := RBlater Rx137 HB140'
        have Zw139 := Zx137.later HB140'
        refine hK'.out _ _ HB140 (fun _ => ?_)
        clear hK' K'
        try simp only [Act.put, List.setIfInBounds_toArray, List.set_cons_zero, List.set_cons_succ]
        refine wpAnyH_ready (rs := [5]) (by kernel_rfl) (by simp) ?_
        refine AllReadyH.cons (o := { dst := some 14, op := Op.call { callee := Callee.value (Operand.func 99), args := #[Operand.tmp 13], argTypes := #[9] }, type := 114, pos := "l6_aes.go:213", after := #[{ on := 4, ground := Ground.data }, { on := 3, ground := Ground.chain }], guard := none }) rfl (fun K' hK' => ?_) AllReadyH.nil
        go_simp
        refine (gridsOf_no u _ hu hu1).mono ?_
        rintro e w141 ⟨⟨u0, pv, rfl⟩, HB142⟩
        first | exact ⟨⟨_, _, rfl⟩, HB140.trans (HB142.mono HB140.size)⟩ | exact ⟨⟨_, _, rfl⟩, HB140.trans (HB142.mono HB140.size), rfl⟩ | exact ⟨HB140.trans (HB142.mono HB140.size), rfl⟩ | exact HB140.trans (HB142.mono HB140.size)
      refine AllReadyH.cons (o := { dst := some 5, op := Op.alloc 119, type := 0, pos := "l6_aes.go:213", after := #[], guard := none }) rfl (fun K' hK' => ?_) AllReadyH.nil
      go_simp
      have HB144 := HB126.alloc HB126.size (.cells #[.int .u8 0, .int .u8 0, .int .u8 0, .int .u8 0, .int .u8 0, .int .u8 0, .int .u8 0, .int .u8 0, .int .u8 0, .int .u8 0, .int .u8 0, .int .u8 0, .int .u8 0, .int .u8 0, .int .u8 0, .int .u8 0] 119)
      have aBx143 := HB126.size
      have Zx143 := Zx125.later (below_box _ (.cells #[.int .u8 0, .int .u8 0, .int .u8 0, .int .u8 0, .int .u8 0, .int .u8 0, .int .u8 0, .int .u8 0, .int .u8 0, .int .u8 0, .int .u8 0, .int .u8 0, .int .u8 0, .int .u8 0, .int .u8 0, .int .u8 0] 119))
      have Rx143 : RB ((w.drew.alloc (.cells #[.pointer none, .slice none 0 0] 116)).alloc (.cells #[.int .u8 0, .int .u8 0, .int .u8 0, .int .u8 0, .int .u8 0, .int .u8 0, .int .u8 0, .int .u8 0, .int .u8 0, .int .u8 0, .int .u8 0, .int .u8 0, .int .u8 0, .int .u8 0, .int .u8 0, .int .u8 0] 119)) (w.drew.alloc (.cells #[.pointer none, .slice none 0 0] 116)).heap.size 16 119 (fun _ => 0) := by
        rw [zeroG]; exact RB.new (w.drew.alloc (.cells #[.pointer none, .slice none 0 0] 116)) 16 _ _
      have qx143 : (w.drew.alloc (.cells #[.pointer none, .slice none 0 0] 116)).heap.size = (w.drew.heap.size + 1) := by simp
      rw [qx143] at Rx143 aBx143
      refine hK'.out _ _ HB144 (fun _ => ?_)
      clear hK' K'
      try simp only [Act.put, List.setIfInBounds_toArray, List.set_cons_zero, List.set_cons_succ]
      refine wpAnyH_ready (rs := [1]) (by kernel_rfl) (by simp) ?_
      refine AllReadyH.cons (o := { dst := some 10, op := Op.call { callee := Callee.value (Operand.func 97), args := #[Operand.tmp 9], argTypes := #[9] }, type := 116, pos := "l6_aes.go:213", after := #[{ on := 0, ground := Ground.data }], guard := none }) rfl (fun K' hK' => ?_) AllReadyH.nil
      go_simp
      refine (cipherOf_ok s _ hs).mono ?_
      rintro e w145 ⟨gt, gk, cap, rfl, Tw145, Kw145, HB146'⟩
      have HB146 := HB144.trans (HB146'.mono HB144.size)
      have Rw145 := RBlater Rx143 HB146'
      have Zw145 := Zx143.later HB146'
      refine hK'.out _ _ HB146 (fun _ => ?_)
      clear hK' K'
      try simp only [Act.put, List.setIfInBounds_toArray, List.set_cons_zero, List.set_cons_succ]
      refine wpAnyH_ready (rs := [3]) (by kernel_rfl) (by simp) ?_
      refine AllReadyH.cons (o := { dst := some 12, op := Op.call { callee := Callee.value (Operand.func 98), args := #[Operand.tmp 11], argTypes := #[9] }, type := 119, pos := "l6_aes.go:213", after := #[{ on := 2, ground := Ground.data }, { on := 1, ground := Ground.chain }], guard := none }) rfl (fun K' hK' => ?_) AllReadyH.nil
      go_simp
      refine (gridOf_ok t _ ht).mono ?_
      rintro e w147 ⟨rfl, HB148'⟩
      have HB148 := HB146.trans (HB148'.mono HB146.size)
      have Tw147 := RBlater Tw145 HB148'
      have Kw147 := Kw145.later HB148'
      have Rw147 := RBlater Rw145 HB148'
      have Zw147 := Zw145.later HB148'
      refine hK'.out _ _ HB148 (fun _ => ?_)
      clear hK' K'
      try simp only [Act.put, List.setIfInBounds_toArray, List.set_cons_zero, List.set_cons_succ]
      refine wpAnyH_ready (rs := [5]) (by kernel_rfl) (by simp) ?_
      refine AllReadyH.cons (o := { dst := some 14, op := Op.call { callee := Callee.value (Operand.func 99), args := #[Operand.tmp 13], argTypes := #[9] }, type := 114, pos := "l6_aes.go:213", after := #[{ on := 4, ground := Ground.data }, { on := 3, ground := Ground.chain }], guard := none }) rfl (fun K' hK' => ?_) AllReadyH.nil
      go_simp
      refine (gridsOf_no u _ hu hu1).mono ?_
      rintro e w149 ⟨⟨u0, pv, rfl⟩, HB150⟩
      first | exact ⟨⟨_, _, rfl⟩, HB148.trans (HB150.mono HB148.size)⟩ | exact ⟨⟨_, _, rfl⟩, HB148.trans (HB150.mono HB148.size), rfl⟩ | exact ⟨HB148.trans (HB150.mono HB148.size), rfl⟩ | exact HB148.trans (HB150.mono HB148.size)
    refine AllReadyH.cons (o := { dst := some 5, op := Op.alloc 119, type := 0, pos := "l6_aes.go:213", after := #[], guard := none }) rfl (fun K' hK' => ?_) AllReadyH.nil
    go_simp
    have HB152 := H0.alloc H0.size (.cells #[.int .u8 0, .int .u8 0, .int .u8 0, .int .u8 0, .int .u8 0, .int .u8 0, .int .u8 0, .int .u8 0, .int .u8 0, .int .u8 0, .int .u8 0, .int .u8 0, .int .u8 0, .int .u8 0, .int .u8 0, .int .u8 0] 119)
    have aBx151 := H0.size
    have Rx151 : RB (w.drew.alloc (.cells #[.int .u8 0, .int .u8 0, .int .u8 0, .int .u8 0, .int .u8 0, .int .u8 0, .int .u8 0, .int .u8 0, .int .u8 0, .int .u8 0, .int .u8 0, .int .u8 0, .int .u8 0, .int .u8 0, .int .u8 0, .int .u8 0] 119)) w.drew.heap.size 16 119 (fun _ => 0) := by
      rw [zeroG]; exact RB.new w.drew 16 _ _
    refine hK'.out _ _ HB152 (fun _ => ?_)
    clear hK' K'
    try simp only [Act.put, List.setIfInBounds_toArray, List.set_cons_zero, List.set_cons_succ]
    refine wpAnyH_ready (rs := [1, 6]) (by kernel_rfl) (by simp) ?_
    refine AllReadyH.cons (o := { dst := some 10, op := Op.call { callee := Callee.value (Operand.func 97), args := #[Operand.tmp 9], argTypes := #[9] }, type := 116, pos := "l6_aes.go:213", after := #[{ on := 0, ground := Ground.data }], guard := none }) rfl (fun K' hK' => ?_) ?_
    · go_simp
      refine (cipherOf_ok s _ hs).mono ?_
      rintro e w153 ⟨gt, gk, cap, rfl, Tw153, Kw153, HB154'⟩
      have HB154 := HB152.trans (HB154'.mono HB152.size)
      have Rw153 := RBlater Rx151 HB154'
      refine hK'.out _ _ HB154 (fun _ => ?_)
      clear hK' K'
      try simp only [Act.put, List.setIfInBounds_toArray, List.set_cons_zero, List.set_cons_succ]
      refine wpAnyH_ready (rs := [3, 6]) (by kernel_rfl) (by simp) ?_
      refine AllReadyH.cons (o := { dst := some 12, op := Op.call { callee := Callee.value (Operand.func 98), args := #[Operand.tmp 11], argTypes := #[9] }, type := 119, pos := "l6_aes.go:213", after := #[{ on := 2, ground := Ground.data }, { on := 1, ground := Ground.chain }], guard := none }) rfl (fun K' hK' => ?_) ?_
      · go_simp
        refine (gridOf_ok t _ ht).mono ?_
        rintro e w155 ⟨rfl, HB156'⟩
        have HB156 := HB154.trans (HB156'.mono HB154.size)
        have Tw155 := RBlater Tw153 HB156'
        have Kw155 := Kw153.later HB156'
        have Rw155 := RBlater Rw153 HB156'
        refine hK'.out _ _ HB156 (fun _ => ?_)
        clear hK' K'
        try simp only [Act.put, List.setIfInBounds_toArray, List.set_cons_zero, List.set_cons_succ]
        refine wpAnyH_ready (rs := [5, 6]) (by kernel_rfl) (by simp) ?_
        refine AllReadyH.cons (o := { dst := some 14, op := Op.call { callee := Callee.value (Operand.func 99), args := #[Operand.tmp 13], argTypes := #[9] }, type := 114, pos := "l6_aes.go:213", after := #[{ on := 4, ground := Ground.data }, { on := 3, ground := Ground.chain }], guard := none }) rfl (fun K' hK' => ?_) ?_
        · go_simp
          refine (gridsOf_no u _ hu hu1).mono ?_
          rintro e w157 ⟨⟨u0, pv, rfl⟩, HB158⟩
          first | exact ⟨⟨_, _, rfl⟩, HB156.trans (HB158.mono HB156.size)⟩ | exact ⟨⟨_, _, rfl⟩, HB156.trans (HB158.mono HB156.size), rfl⟩ | exact ⟨HB156.trans (HB158.mono HB156.size), rfl⟩ | exact HB156.trans (HB158.mono HB156.size)
        refine AllReadyH.cons (o := { dst := some 4, op := Op.alloc 116, type := 0, pos := "l6_aes.go:213", after := #[], guard := none }) rfl (fun K' hK' => ?_) AllReadyH.nil
        go_simp
        have HB160 := HB156.alloc HB156.size (.cells #[.pointer none, .slice none 0 0] 116)
        have cBx159 := HB156.size
        have Tx159 := RBlater Tw155 (below_box _ (.cells #[.pointer none, .slice none 0 0] 116))
        have Kx159 := Kw155.later (below_box _ (.cells #[.pointer none, .slice none 0 0] 116))
        have Rx159 := RBlater Rw155 (below_box _ (.cells #[.pointer none, .slice none 0 0] 116))
        have Zx159 := CZ.new w155
        refine hK'.out _ _ HB160 (fun _ => ?_)
        clear hK' K'
        try simp only [Act.put, List.setIfInBounds_toArray, List.set_cons_zero, List.set_cons_succ]
        refine wpAnyH_ready (rs := [5]) (by kernel_rfl) (by simp) ?_
        refine AllReadyH.cons (o := { dst := some 14, op := Op.call { callee := Callee.value (Operand.func 99), args := #[Operand.tmp 13], argTypes := #[9] }, type := 114, pos := "l6_aes.go:213", after := #[{ on := 4, ground := Ground.data }, { on := 3, ground := Ground.chain }], guard := none }) rfl (fun K' hK' => ?_) AllReadyH.nil
        go_simp
        refine (gridsOf_no u _ hu hu1).mono ?_
        rintro e w161 ⟨⟨u0, pv, rfl⟩, HB162⟩
        first | exact ⟨⟨_, _, rfl⟩, HB160.trans (HB162.mono HB160.size)⟩ | exact ⟨⟨_, _, rfl⟩, HB160.trans (HB162.mono HB160.size), rfl⟩ | exact ⟨HB160.trans (HB162.mono HB160.size), rfl⟩ | exact HB160.trans (HB162.mono HB160.size)
      refine AllReadyH.cons (o := { dst := some 4, op := Op.alloc 116, type := 0, pos := "l6_aes.go:213", after := #[], guard := none }) rfl (fun K' hK' => ?_) AllReadyH.nil
      go_simp
      have HB164 := HB154.alloc HB154.size (.cells #[.pointer none, .slice none 0 0] 116)
      have cBx163 := HB154.size
      have Tx163 := RBlater Tw153 (below_box _ (.cells #[.pointer none, .slice none 0 0] 116))
      have Kx163 := Kw153.later (below_box _ (.cells #[.pointer none, .slice none 0 0] 116))
      have Rx163 := RBlater Rw153 (below_box _ (.cells #[.pointer none, .slice none 0 0] 116))
      have Zx163 := CZ.new w153
      refine hK'.out _ _ HB164 (fun _ => ?_)
      clear hK' K'
      try simp only [Act.put, List.setIfInBounds_toArray, List.set_cons_zero, List.set_cons_succ]
      refine wpAnyH_ready (rs := [3]) (by kernel_rfl) (by simp) ?_
      refine AllReadyH.cons (o := { dst := some 12, op := Op.call { callee := Callee.value (Operand.func 98), args := #[Operand.tmp 11], argTypes := #[9] }, type := 119, pos := "l6_aes.go:213", after := #[{ on := 2, ground := Ground.data }, { on := 1, ground := Ground.chain }], guard := none }) rfl (fun K' hK' => ?_) AllReadyH.nil
      go_simp
      refine (gridOf_ok t _ ht).mono ?_
      rintro e w165 ⟨rfl, HB166'⟩
      have HB166 := HB164.trans (HB166'.mono HB164.size)
      have Tw165 := RBlater Tx163 HB166'
      have Kw165 := Kx163.later HB166'
      have Rw165 := RBlater Rx163 HB166'
      have Zw165 := Zx163.later HB166'
      refine hK'.out _ _ HB166 (fun _ => ?_)
      clear hK' K'
      try simp only [Act.put, List.setIfInBounds_toArray, List.set_cons_zero, List.set_cons_succ]
      refine wpAnyH_ready (rs := [5]) (by kernel_rfl) (by simp) ?_
      refine AllReadyH.cons (o := { dst := some 14, op := Op.call { callee := Callee.value (Operand.func 99), args := #[Operand.tmp 13], argTypes := #[9] }, type := 114, pos := "l6_aes.go:213", after := #[{ on := 4, ground := Ground.data }, { on := 3, ground := Ground.chain }], guard := none }) rfl (fun K' hK' => ?_) AllReadyH.nil
      go_simp
      refine (gridsOf_no u _ hu hu1).mono ?_
      rintro e w167 ⟨⟨u0, pv, rfl⟩, HB168⟩
      first | exact ⟨⟨_, _, rfl⟩, HB166.trans (HB168.mono HB166.size)⟩ | exact ⟨⟨_, _, rfl⟩, HB166.trans (HB168.mono HB166.size), rfl⟩ | exact ⟨HB166.trans (HB168.mono HB166.size), rfl⟩ | exact HB166.trans (HB168.mono HB166.size)
    refine AllReadyH.cons (o := { dst := some 4, op := Op.alloc 116, type := 0, pos := "l6_aes.go:213", after := #[], guard := none }) rfl (fun K' hK' => ?_) AllReadyH.nil
    go_simp
    have HB170 := HB152.alloc HB152.size (.cells #[.pointer none, .slice none 0 0] 116)
    have cBx169 := HB152.size
    have Rx169 := RBlater Rx151 (below_box _ (.cells #[.pointer none, .slice none 0 0] 116))
    have qx169 : (w.drew.alloc (.cells #[.int .u8 0, .int .u8 0, .int .u8 0, .int .u8 0, .int .u8 0, .int .u8 0, .int .u8 0, .int .u8 0, .int .u8 0, .int .u8 0, .int .u8 0, .int .u8 0, .int .u8 0, .int .u8 0, .int .u8 0, .int .u8 0] 119)).heap.size = (w.drew.heap.size + 1) := by simp
    have Zx169 : CZ ((w.drew.alloc (.cells #[.int .u8 0, .int .u8 0, .int .u8 0, .int .u8 0, .int .u8 0, .int .u8 0, .int .u8 0, .int .u8 0, .int .u8 0, .int .u8 0, .int .u8 0, .int .u8 0, .int .u8 0, .int .u8 0, .int .u8 0, .int .u8 0] 119)).alloc (.cells #[.pointer none, .slice none 0 0] 116)) (w.drew.heap.size + 1) := by have := CZ.new (w.drew.alloc (.cells #[.int .u8 0, .int .u8 0, .int .u8 0, .int .u8 0, .int .u8 0, .int .u8 0, .int .u8 0, .int .u8 0, .int .u8 0, .int .u8 0, .int .u8 0, .int .u8 0, .int .u8 0, .int .u8 0, .int .u8 0, .int .u8 0] 119)); rw [qx169] at this; exact this
    rw [qx169] at cBx169
    refine hK'.out _ _ HB170 (fun _ => ?_)
    clear hK' K'
    try simp only [Act.put, List.setIfInBounds_toArray, List.set_cons_zero, List.set_cons_succ]
    refine wpAnyH_ready (rs := [1]) (by kernel_rfl) (by simp) ?_
    refine AllReadyH.cons (o := { dst := some 10, op := Op.call { callee := Callee.value (Operand.func 97), args := #[Operand.tmp 9], argTypes := #[9] }, type := 116, pos := "l6_aes.go:213", after := #[{ on := 0, ground := Ground.data }], guard := none }) rfl (fun K' hK' => ?_) AllReadyH.nil
    go_simp
    refine (cipherOf_ok s _ hs).mono ?_
    rintro e w171 ⟨gt, gk, cap, rfl, Tw171, Kw171, HB172'⟩
    have HB172 := HB170.trans (HB172'.mono HB170.size)
    have Rw171 := RBlater Rx169 HB172'
    have Zw171 := Zx169.later HB172'
    refine hK'.out _ _ HB172 (fun _ => ?_)
    clear hK' K'
    try simp only [Act.put, List.setIfInBounds_toArray, List.set_cons_zero, List.set_cons_succ]
    refine wpAnyH_ready (rs := [3]) (by kernel_rfl) (by simp) ?_
    refine AllReadyH.cons (o := { dst := some 12, op := Op.call { callee := Callee.value (Operand.func 98), args := #[Operand.tmp 11], argTypes := #[9] }, type := 119, pos := "l6_aes.go:213", after := #[{ on := 2, ground := Ground.data }, { on := 1, ground := Ground.chain }], guard := none }) rfl (fun K' hK' => ?_) AllReadyH.nil
    go_simp
    refine (gridOf_ok t _ ht).mono ?_
    rintro e w173 ⟨rfl, HB174'⟩
    have HB174 := HB172.trans (HB174'.mono HB172.size)
    have Tw173 := RBlater Tw171 HB174'
    have Kw173 := Kw171.later HB174'
    have Rw173 := RBlater Rw171 HB174'
    have Zw173 := Zw171.later HB174'
    refine hK'.out _ _ HB174 (fun _ => ?_)
    clear hK' K'
    try simp only [Act.put, List.setIfInBounds_toArray, List.set_cons_zero, List.set_cons_succ]
    refine wpAnyH_ready (rs := [5]) (by kernel_rfl) (by simp) ?_
    refine AllReadyH.cons (o := { dst := some 14, op := Op.call { callee := Callee.value (Operand.func 99), args := #[Operand.tmp 13], argTypes := #[9] }, type := 114, pos := "l6_aes.go:213", after := #[{ on := 4, ground := Ground.data }, { on := 3, ground := Ground.chain }], guard := none }) rfl (fun K' hK' => ?_) AllReadyH.nil
    go_simp
    refine (gridsOf_no u _ hu hu1).mono ?_
    rintro e w175 ⟨⟨u0, pv, rfl⟩, HB176⟩
    first | exact ⟨⟨_, _, rfl⟩, HB174.trans (HB176.mono HB174.size)⟩ | exact ⟨⟨_, _, rfl⟩, HB174.trans (HB176.mono HB174.size), rfl⟩ | exact ⟨HB174.trans (HB176.mono HB174.size), rfl⟩ | exact HB174.trans (HB176.mono HB174.size)
set_option maxHeartbeats 8000000 in
set_option maxRecDepth 100000 in
theorem chp_ok (s t u : ByteArray) (b c d : Nat) (w : World) (n : Nat) (hs : s.size = 16) (ht : t.size = 16) (hu : u.size = 16 * n) (hn : n ≤ 20) (hb : w.cell? ⟨b, 0, none⟩ = some (.string s)) (hc : w.cell? ⟨c, 0, none⟩ = some (.string t)) (hd : w.cell? ⟨d, 0, none⟩ = some (.string u)) :
    Calls Tryz.prog 96 #[.pointer (some ⟨b, 0, none⟩), .pointer (some ⟨c, 0, none⟩), .pointer (some ⟨d, 0, none⟩)] w fun e w' => e = .returned (.string (txt (16 * n) (flatK (fun i => cp (KS (bn s)) (bn t) (blk u) (i + 1))))) ∧ Below w.heap.size w w' := by
  have lb : b < w.heap.size := lt_of_cell hb
  have lc : c < w.heap.size := lt_of_cell hc
  have ld : d < w.heap.size := lt_of_cell hd
  go_enter Tryz.func96, Tryz.ntmps96
  go_wp2_with fail
  refine Code.wp_mono (Q := fun e a' w' => match e with | .normal => ∃ gc gt gk cap ga v B, a' = { tmps := #[.pointer (some ⟨b, 0, none⟩), .pointer (some ⟨c, 0, none⟩), .pointer (some ⟨d, 0, none⟩), .string ⟨#[]⟩, .pointer (some ⟨gc, 0, none⟩), .pointer (some ⟨ga, 0, none⟩), v, undef, undef, .string s, .agg #[.pointer (some ⟨gt, 0, none⟩), .slice (some ⟨gk, 0, none⟩) 11 cap], .string t, .agg (rC 16 (bn t)), .string u, v, undef, undef, undef, undef, undef, undef, undef, undef, undef, undef, undef, undef, undef, undef, undef, undef, undef, undef, undef], defers := [] } ∧ HS w w' gc gt gk ga cap n B v (KS (bn s)) (blk u) (bn t) | _ => False) ?_ ?_
  · intro e a' w' h
    cases e <;> first | exact h.elim | skip
    obtain ⟨gc, gt, gk, cap, ga, v, B, rfl, H1⟩ := h
    have HW0 := hid_in H1
    clear H1
    obtain ⟨a, c0, rfl⟩ := HW0.out.lst.any
    have hKb := fun i (_ : i < 11) => KS_by (f := bn s) (fun i _ => bn_lt s i) i
    have hTb := blk_by u
    have hfb : By 16 (bn t) := fun i _ => bn_lt t i
    have hn40 : (n : Int) ≤ 20 := by omega
    go_wp2_with fail
    go_loopw [17] (fun x wr => ∃ k : Nat, k ≤ n ∧ x = .int .i64 (k : Int) ∧ Hid (HS w wr gc gt gk ga cap n B (.slice a n c0) (KS (bn s)) (fun i => if i < k then cp (KS (bn s)) (bn t) (blk u) (i + 1) else blk u i) (cp (KS (bn s)) (bn t) (blk u) k))) (fun x _ => n - (intOf x).toNat)
    case atStart => exact ⟨0, by omega, rfl, HW0.out.congr (fun i _ j _ => by simp) (fun j _ => rfl)⟩
    case round =>
      obtain ⟨k, hk, rfl, HW⟩ := hrel
      clear HW0
      by_cases hlt : k < n
      · have HL := hid_in hlt
        obtain ⟨g, c1, cur, hu1, hc1, hg1, RL, hh, hz⟩ := HW.out.lst.row (by omega)
        have hu2 : a = some ⟨g, 0, none⟩ ∧ c0 = c1 := by simpa using hu1
        obtain ⟨rfl, rfl⟩ := hu2
        have q1 : (k : Int) < n := by omega
        have HKW := hid_in (RL.row k hlt)
        have HKW2 : Hid (∀ j, j < 16 → wr.cell? ((⟨g, k * 16, none⟩ : Addr).add j) = (rC 16 (blk u k))[j]?) := by
          have h := HKW.out
          rw [if_neg (Nat.lt_irrefl k)] at h
          exact h
        have Z1 : Hid (RB (wr.alloc (.cells #[.int .u8 0, .int .u8 0, .int .u8 0, .int .u8 0, .int .u8 0, .int .u8 0, .int .u8 0, .int .u8 0, .int .u8 0, .int .u8 0, .int .u8 0, .int .u8 0, .int .u8 0, .int .u8 0, .int .u8 0, .int .u8 0] 119)) wr.heap.size 16 119 (fun _ => 0)) := by
          rw [zeroG]; exact RB.new wr 16 _ _
        have B1 := hid_in (below_box wr (.cells #[.int .u8 0, .int .u8 0, .int .u8 0, .int .u8 0, .int .u8 0, .int .u8 0, .int .u8 0, .int .u8 0, .int .u8 0, .int .u8 0, .int .u8 0, .int .u8 0, .int .u8 0, .int .u8 0, .int .u8 0, .int .u8 0] 119))
        clear hu1 RL hh hz HKW
        have XB := xor_by (hTb k) (cp_by hKb hfb hTb k)
        have EB := enc_by hKb XB 10 (by omega)
        have FB := cp_by hKb hfb hTb k
        have TB := hTb k
        obtain ⟨tf, htf⟩ : ∃ tf, (fun i => if i < k then cp (KS (bn s)) (bn t) (blk u) (i + 1) else blk u i) = tf := ⟨_, rfl⟩
        obtain ⟨ck, hck⟩ : ∃ ck, cp (KS (bn s)) (bn t) (blk u) k = ck := ⟨_, rfl⟩
        obtain ⟨bk, hbk⟩ : ∃ bk, blk u k = bk := ⟨_, rfl⟩
        have CE : Hid (enc (KS (bn s)) (fun i => blk u k i ^^^ cp (KS (bn s)) (bn t) (blk u) k i) 10 = cp (KS (bn s)) (bn t) (blk u) (k + 1)) := rfl
        have TF := hid_in htf
        rw [htf, hck] at HW
        rw [hbk] at HKW2
        rw [hck, hbk] at XB EB CE
        rw [hck] at FB
        rw [hbk] at TB
        clear htf hck hbk
        obtain ⟨ek, hek⟩ : ∃ ek, enc (KS (bn s)) (fun i => bk i ^^^ ck i) 10 = ek := ⟨_, rfl⟩
        have EK := hid_in hek
        rw [hek] at EB CE
        clear hek
        have PE := hid_in (fun (W : World) (h1 : RB W gt 512 171 (tabF 255)) (h2 : KR W gk 11 (KS (bn s))) => by have := put_any gt gk cap (KS (bn s)) (fun i => bk i ^^^ ck i) W h1 h2 XB hKb; rw [EK.out] at this; exact this)
        go_wp2_with (first | (refine wpList_load_at aggG rfl (.tmp 20) rfl ⟨g, k * 16, none⟩ rfl (rC 16 bk) (rC_size _ _) HKW2.out ?_) | (refine wpList_store_row rfl 119 _ _ rfl wr.heap.size _ rfl rfl 119 _ Z1.out sizeG rfl (rC_one _ _) ?_))
        have B2 := hid_in (Below_setRow (cs := rC 16 bk) B1.out (Nat.le_refl _))
        have R2 : Hid (RB (World.setRow _ wr.heap.size (rC 16 bk)) wr.heap.size 16 119 bk) := setRow_at Z1.out
        have S2 : wr.heap.size < (World.setRow (wr.alloc (.cells #[.int .u8 0, .int .u8 0, .int .u8 0, .int .u8 0, .int .u8 0, .int .u8 0, .int .u8 0, .int .u8 0, .int .u8 0, .int .u8 0, .int .u8 0, .int .u8 0, .int .u8 0, .int .u8 0, .int .u8 0, .int .u8 0] 119)) wr.heap.size (rC 16 bk)).heap.size := by simp [World.setRow]
        have H2 := hid_in (HW.out.later B2.out)
        clear Z1 B1 HKW2 HW
        generalize (World.setRow _ wr.heap.size (rC 16 bk)) = W2 at *
        generalize wr.heap.size = gx at *
        have c0' := H2.out.box.c0
        have c1' := H2.out.box.c1
        have l1 := H2.out.box.lt
        have l2 := H2.out.ahd.lt
        have l3 := R2.out.lt
        refine wp_region_lat_tail (Below.refl _ _) (by kernel_rfl) (by dsimp only [List.dropLast]) (by exact rfl) (by kernel_rfl) ?_
        intro hne hcl
        repeat (first | (refine quiet_load_at aggC rfl (.tmp 4) rfl ⟨gc, 0, none⟩ rfl #[.pointer (some ⟨gt, 0, none⟩), .slice (some ⟨gk, 0, none⟩) 11 cap] rfl (fun w' hw' => by obtain ⟨l, rfl⟩ := hw'; exact (H2.out.box.later l.h).row) ?_; go_simp) | (refine quiet_load_at aggG rfl (.tmp 8) rfl ⟨gx, 0, none⟩ rfl (rC 16 bk) (rC_size _ _) (fun w' hw' => by obtain ⟨l, rfl⟩ := hw'; exact RB.row (RBlater R2.out l.h)) ?_; go_simp) | (refine quiet_load_at aggG rfl (.tmp 5) rfl ⟨ga, 0, none⟩ rfl (rC 16 ck) (rC_size _ _) (fun w' hw' => by obtain ⟨l, rfl⟩ := hw'; exact RB.row (RBlater H2.out.ahd l.h)) ?_; go_simp) | go_big_quiet_step (first | (go_at_call 101; exact lat_of (with_any bk ck _ TB FB)) | (go_at_call 100; exact lat_of (PE.out _ (RBlater H2.out.tab (Lat.h _)) (H2.out.keys.later (Lat.h _))))))
        refine wpQuiet_nil ?_
        intro w3 hb3
        clear hne hcl
        have H3 := hid_in (H2.out.later hb3)
        clear hb3 c0' c1' l1 l2 l3 H2 R2
        have H4 := hid_in (H3.out.setA ek)
        have A3 := hid_in H3.out.ahd
        have A4 := hid_in H4.out.ahd
        have T4 := hid_in (show World.there _ g (k * 16) (rC 16 ek).size by rw [rC_size]; exact H4.out.lst.there k HL.out)
        have SZ := hid_in (show (Tryz.prog.info? 119).map (·.size) = some (rC 16 ek).size by rw [rC_size]; exact sizeG)
        have la := H4.out.ahd.lt
        go_wp2_with (first | (refine wpList_store_row rfl 119 _ _ rfl ga _ rfl rfl 119 _ A3.out sizeG rfl (rC_one _ _) ?_) | (refine wpList_load_row rfl 119 _ rfl ga rfl 119 _ (0, 0) _ A4.out Tryz.underlying119 rfl sizeG ?_) | (refine wpList_store_mid rfl 119 _ _ rfl g (k * 16) (rC 16 ek) rfl rfl T4.out SZ.out (rC_one _ _) ?_; have H5 := hid_in (H4.out.setL (Nat.lt_of_le_of_lt (Nat.zero_le _) HL.out) k HL.out ek); generalize (World.setCells _ g (k * 16) (rC 16 ek).toList) = W5 at *))
        refine ⟨⟨k + 1, HL.out, by simp, ?_⟩, by have := HL.out; simp [intOf]; omega⟩
        refine H5.out.congr (fun i hi j hj => ?_) (fun j hj => by rw [CE.out])
        rw [← TF.out, CE.out]
        show (if i = k then cp (KS (bn s)) (bn t) (blk u) (k + 1) else if i < k then cp (KS (bn s)) (bn t) (blk u) (i + 1) else blk u i) j = (if i < k + 1 then cp (KS (bn s)) (bn t) (blk u) (i + 1) else blk u i) j
        by_cases e : i = k
        · rw [if_pos e, if_pos (by omega), e]
        · by_cases e2 : i < k
          · rw [if_neg e, if_pos e2, if_pos (by omega)]
          · rw [if_neg e, if_neg e2, if_neg (by omega)]
      · have hk' : k = n := by omega
        have HK := hid_in hk'
        have q1 : ¬ (k : Int) < n := by omega
        have G := hid_in (HW.out.lst.congr (L := fun i => cp (KS (bn s)) (bn t) (blk u) (i + 1)) (fun i hi j hj => by show (if i < k then cp (KS (bn s)) (bn t) (blk u) (i + 1) else blk u i) j = _; rw [if_pos (by omega)]))
        have hpre : n = 0 ∨ ∃ g, a = some ⟨g, 0, none⟩ ∧ KR wr g n (fun i => cp (KS (bn s)) (bn t) (blk u) (i + 1)) := by
          by_cases h0 : n = 0
          · exact .inl h0
          · obtain ⟨g, c1, cur, hu1, _, _, RL, _, _⟩ := G.out.row (by omega)
            have hu2 : a = some ⟨g, 0, none⟩ ∧ c0 = c1 := by simpa using hu1
            exact .inr ⟨g, hu2.1, RL⟩
        obtain ⟨gq, hpre2⟩ : ∃ g, n = 0 ∨ a = some ⟨g, 0, none⟩ ∧ KR wr g n (fun i => cp (KS (bn s)) (bn t) (blk u) (i + 1)) := by
          rcases hpre with h0 | ⟨g, h1⟩
          · exact ⟨0, .inl h0⟩
          · exact ⟨g, .inr h1⟩
        have HP := hid_in hpre2
        clear hpre hpre2 hk'
        go_wp2_with fail
        refine (gridsText_any a gq n c0 (fun i => cp (KS (bn s)) (bn t) (blk u) (i + 1)) _ (by omega) HP.out (fun i _ => cp_by hKb hfb hTb _)).mono ?_
        rintro e w6 ⟨rfl, hb6⟩
        go_wp2_with fail
        go_ret
        exact ⟨rfl, below_later HW.out.bel hb6⟩
  · have H0 : Below w.heap.size w w.drew := (Below.refl _ _).drew
    refine wp_region_held_drew (S := fun w' => Below w.heap.size w w') (by kernel_rfl) H0 (fun _ => ?_)
    refine wpAnyH_take (i := 0) (oi := { dst := some 9, op := Op.load 9 (Operand.tmp 0), type := 9, pos := "l6_aes.go:213", after := #[], guard := none }) (v := .string s) rfl (by kernel_rfl) (by kernel_rfl) (by kernel_rfl) (fun _ _ _ h => h) (Or.inl ⟨by rfl, ?_⟩) H0 ?_
    · intro w' hw
      have hc1 := (hw.cell (p := ⟨b, 0, none⟩) lb).trans hb
      go_simp
    try simp only [Act.put, List.setIfInBounds_toArray, List.set_cons_zero, List.set_cons_succ]
    refine wpAnyH_take (i := 2) (oi := { dst := some 11, op := Op.load 9 (Operand.tmp 1), type := 9, pos := "l6_aes.go:213", after := #[], guard := none }) (v := .string t) rfl (by kernel_rfl) (by kernel_rfl) (by kernel_rfl) (fun _ _ _ h => h) (Or.inl ⟨by rfl, ?_⟩) H0 ?_
    · intro w' hw
      have hc1 := (hw.cell (p := ⟨c, 0, none⟩) lc).trans hc
      go_simp
    try simp only [Act.put, List.setIfInBounds_toArray, List.set_cons_zero, List.set_cons_succ]
    refine wpAnyH_take (i := 4) (oi := { dst := some 13, op := Op.load 9 (Operand.tmp 2), type := 9, pos := "l6_aes.go:213", after := #[], guard := none }) (v := .string u) rfl (by kernel_rfl) (by kernel_rfl) (by kernel_rfl) (fun _ _ _ h => h) (Or.inl ⟨by rfl, ?_⟩) H0 ?_
    · intro w' hw
      have hc1 := (hw.cell (p := ⟨d, 0, none⟩) ld).trans hd
      go_simp
    try simp only [Act.put, List.setIfInBounds_toArray, List.set_cons_zero, List.set_cons_succ]
    refine wpAnyH_ready (rs := [1, 6, 7]) (by kernel_rfl) (by simp) ?_
    refine AllReadyH.cons (o := { dst := some 10, op := Op.call { callee := Callee.value (Operand.func 97), args := #[Operand.tmp 9], argTypes := #[9] }, type := 116, pos := "l6_aes.go:213", after := #[{ on := 0, ground := Ground.data }], guard := none }) rfl (fun K' hK' => ?_) ?_
    · go_simp
      refine (cipherOf_ok s _ hs).mono ?_
      rintro e w177 ⟨gt, gk, cap, rfl, Tw177, Kw177, HB178'⟩
      have HB178 := H0.trans (HB178'.mono H0.size)
      refine hK'.out _ _ HB178 (fun _ => ?_)
      clear hK' K'
      try simp only [Act.put, List.setIfInBounds_toArray, List.set_cons_zero, List.set_cons_succ]
      refine wpAnyH_ready (rs := [3, 6, 7]) (by kernel_rfl) (by simp) ?_
      refine AllReadyH.cons (o := { dst := some 12, op := Op.call { callee := Callee.value (Operand.func 98), args := #[Operand.tmp 11], argTypes := #[9] }, type := 119, pos := "l6_aes.go:213", after := #[{ on := 2, ground := Ground.data }, { on := 1, ground := Ground.chain }], guard := none }) rfl (fun K' hK' => ?_) ?_
      · go_simp
        refine (gridOf_ok t _ ht).mono ?_
        rintro e w179 ⟨rfl, HB180'⟩
        have HB180 := HB178.trans (HB180'.mono HB178.size)
        have Tw179 := RBlater Tw177 HB180'
        have Kw179 := Kw177.later HB180'
        refine hK'.out _ _ HB180 (fun _ => ?_)
        clear hK' K'
        try simp only [Act.put, List.setIfInBounds_toArray, List.set_cons_zero, List.set_cons_succ]
        refine wpAnyH_ready (rs := [5, 6, 7]) (by kernel_rfl) (by simp) ?_
        refine AllReadyH.cons (o := { dst := some 14, op := Op.call { callee := Callee.value (Operand.func 99), args := #[Operand.tmp 13], argTypes := #[9] }, type := 114, pos := "l6_aes.go:213", after := #[{ on := 4, ground := Ground.data }, { on := 3, ground := Ground.chain }], guard := none }) rfl (fun K' hK' => ?_) ?_
        · have kBw181 := Kw179.lt
          have wBw181 := HB180.size
          go_simp
          refine (gridsOf_ok u n _ hu hn).mono ?_
          rintro e w181 ⟨v, rfl, Lw181, HB182'⟩
          have HB182 := HB180.trans (HB182'.mono HB180.size)
          have Tw181 := RBlater Tw179 HB182'
          have Kw181 := Kw179.later HB182'
          refine hK'.out _ _ HB182 (fun _ => ?_)
          clear hK' K'
          try simp only [Act.put, List.setIfInBounds_toArray, List.set_cons_zero, List.set_cons_succ]
          refine wpAnyH_ready (rs := [6, 7]) (by kernel_rfl) (by simp) ?_
          refine AllReadyH.cons (o := { dst := some 4, op := Op.alloc 116, type := 0, pos := "l6_aes.go:213", after := #[], guard := none }) rfl (fun K' hK' => ?_) ?_
          · go_simp
            have HB184 := HB182.alloc HB182.size (.cells #[.pointer none, .slice none 0 0] 116)
            have cBx183 := HB182.size
            have Tx183 := RBlater Tw181 (below_box _ (.cells #[.pointer none, .slice none 0 0] 116))
            have Kx183 := Kw181.later (below_box _ (.cells #[.pointer none, .slice none 0 0] 116))
            have Lx183 := owns_below Lw181 (below_box _ (.cells #[.pointer none, .slice none 0 0] 116))
            have Zx183 := CZ.new w181
            refine hK'.out _ _ HB184 (fun _ => ?_)
            clear hK' K'
            try simp only [Act.put, List.setIfInBounds_toArray, List.set_cons_zero, List.set_cons_succ]
            refine wpAnyH_ready (rs := [7]) (by kernel_rfl) (by simp) ?_
            refine AllReadyH.cons (o := { dst := some 5, op := Op.alloc 119, type := 0, pos := "l6_aes.go:213", after := #[], guard := none }) rfl (fun K' hK' => ?_) AllReadyH.nil
            go_simp
            have HB186 := HB184.alloc HB184.size (.cells #[.int .u8 0, .int .u8 0, .int .u8 0, .int .u8 0, .int .u8 0, .int .u8 0, .int .u8 0, .int .u8 0, .int .u8 0, .int .u8 0, .int .u8 0, .int .u8 0, .int .u8 0, .int .u8 0, .int .u8 0, .int .u8 0] 119)
            have aBx185 := HB184.size
            have nex185 : ∀ g, v.ownBlock = some g → g ≠ (w181.alloc (.cells #[.pointer none, .slice none 0 0] 116)).heap.size := fun g hg => by have := (owns_own Lx183 g hg).2; omega
            have Tx185 := RBlater Tx183 (below_box _ (.cells #[.int .u8 0, .int .u8 0, .int .u8 0, .int .u8 0, .int .u8 0, .int .u8 0, .int .u8 0, .int .u8 0, .int .u8 0, .int .u8 0, .int .u8 0, .int .u8 0, .int .u8 0, .int .u8 0, .int .u8 0, .int .u8 0] 119))
            have Kx185 := Kx183.later (below_box _ (.cells #[.int .u8 0, .int .u8 0, .int .u8 0, .int .u8 0, .int .u8 0, .int .u8 0, .int .u8 0, .int .u8 0, .int .u8 0, .int .u8 0, .int .u8 0, .int .u8 0, .int .u8 0, .int .u8 0, .int .u8 0, .int .u8 0] 119))
            have Zx185 := Zx183.later (below_box _ (.cells #[.int .u8 0, .int .u8 0, .int .u8 0, .int .u8 0, .int .u8 0, .int .u8 0, .int .u8 0, .int .u8 0, .int .u8 0, .int .u8 0, .int .u8 0, .int .u8 0, .int .u8 0, .int .u8 0, .int .u8 0, .int .u8 0] 119))
            have Lx185 := owns_below Lx183 (below_box _ (.cells #[.int .u8 0, .int .u8 0, .int .u8 0, .int .u8 0, .int .u8 0, .int .u8 0, .int .u8 0, .int .u8 0, .int .u8 0, .int .u8 0, .int .u8 0, .int .u8 0, .int .u8 0, .int .u8 0, .int .u8 0, .int .u8 0] 119))
            have Rx185 : RB ((w181.alloc (.cells #[.pointer none, .slice none 0 0] 116)).alloc (.cells #[.int .u8 0, .int .u8 0, .int .u8 0, .int .u8 0, .int .u8 0, .int .u8 0, .int .u8 0, .int .u8 0, .int .u8 0, .int .u8 0, .int .u8 0, .int .u8 0, .int .u8 0, .int .u8 0, .int .u8 0, .int .u8 0] 119)) (w181.alloc (.cells #[.pointer none, .slice none 0 0] 116)).heap.size 16 119 (fun _ => 0) := by
              rw [zeroG]; exact RB.new (w181.alloc (.cells #[.pointer none, .slice none 0 0] 116)) 16 _ _
            have qx185 : (w181.alloc (.cells #[.pointer none, .slice none 0 0] 116)).heap.size = (w181.heap.size + 1) := by simp
            rw [qx185] at Rx185 aBx185
            rw [qx185] at nex185
            refine hK'.out _ _ HB186 (fun _ => ?_)
            clear hK' K'
            try simp only [Act.put, List.setIfInBounds_toArray, List.set_cons_zero, List.set_cons_succ]
            obtain ⟨HS187, HS187r⟩ := HS.start (cap := cap) HB186 Zx185 Tx185 Kx185 Rx185 Lx185 wBw181 kBw181 nex185 cBx183 aBx185
            refine wpAnyH_ready (rs := [8]) (by kernel_rfl) (by simp) ?_
            refine AllReadyH.cons (o := { dst := none, op := Op.store 116 (Operand.tmp 4) (Operand.tmp 10), type := 0, pos := "l6_aes.go:213", after := #[{ on := 6, ground := Ground.data }, { on := 1, ground := Ground.data }, { on := 5, ground := Ground.chain }, { on := 0, ground := Ground.phase }, { on := 1, ground := Ground.phase }, { on := 2, ground := Ground.textOnly Departure.lateStores }, { on := 3, ground := Ground.textOnly Departure.lateStoresUnsure }, { on := 4, ground := Ground.textOnly Departure.lateStores }, { on := 5, ground := Ground.textOnly Departure.lateStoresUnsure }, { on := 6, ground := Ground.phase }, { on := 7, ground := Ground.phase }], guard := none }) rfl (fun K' hK' => ?_) AllReadyH.nil
            rw [if_pos (by rfl)]
            refine wp_store_row 116 _ _ rfl _ #[.pointer (some ⟨gt, 0, none⟩), .slice (some ⟨gk, 0, none⟩) 11 cap] rfl rfl 116 _ Zx185 sizeC rfl (oneC _ _ _ _) ?_
            refine hK'.out _ _ HS187.bel (fun _ => ?_)
            clear hK' K'
            try simp only [Act.put, List.setIfInBounds_toArray, List.set_cons_zero, List.set_cons_succ]
            refine wpAnyH_ready (rs := [9]) (by kernel_rfl) (by simp) ?_
            refine AllReadyH.cons (o := { dst := none, op := Op.store 119 (Operand.tmp 5) (Operand.tmp 12), type := 0, pos := "l6_aes.go:213", after := #[{ on := 7, ground := Ground.data }, { on := 3, ground := Ground.data }, { on := 8, ground := Ground.chain }, { on := 0, ground := Ground.phase }, { on := 1, ground := Ground.phase }, { on := 2, ground := Ground.phase }, { on := 3, ground := Ground.phase }, { on := 4, ground := Ground.textOnly Departure.lateStores }, { on := 5, ground := Ground.textOnly Departure.lateStoresUnsure }, { on := 6, ground := Ground.phase }, { on := 7, ground := Ground.phase }, { on := 8, ground := Ground.phase }], guard := none }) rfl (fun K' hK' => ?_) AllReadyH.nil
            rw [if_pos (by rfl)]
            refine wp_store_row 119 _ _ rfl _ (rC 16 (bn t)) rfl rfl 119 _ HS187r sizeG rfl (rC_one _ _) ?_
            have HS187a := HS187.setA (bn t)
            refine hK'.out _ _ HS187a.bel (fun _ => ?_)
            clear hK' K'
            try simp only [Act.put, List.setIfInBounds_toArray, List.set_cons_zero, List.set_cons_succ]
            refine wpAnyH_ready (rs := [10]) (by kernel_rfl) (by simp) ?_
            refine AllReadyH.cons (o := { dst := some 6, op := Op.assign (Operand.tmp 14), type := 114, pos := "l6_aes.go:213", after := #[{ on := 5, ground := Ground.data }, { on := 9, ground := Ground.chain }, { on := 0, ground := Ground.phase }, { on := 1, ground := Ground.phase }, { on := 2, ground := Ground.phase }, { on := 3, ground := Ground.phase }, { on := 4, ground := Ground.phase }, { on := 5, ground := Ground.phase }, { on := 6, ground := Ground.phase }, { on := 7, ground := Ground.phase }, { on := 8, ground := Ground.phase }, { on := 9, ground := Ground.phase }], guard := none }) rfl (fun K' hK' => ?_) AllReadyH.nil
            go_simp
            refine hK'.out _ _ HS187a.bel (fun _ => ?_)
            clear hK' K'
            try simp only [Act.put, List.setIfInBounds_toArray, List.set_cons_zero, List.set_cons_succ]
            refine wpAnyH_done (by kernel_rfl) ?_ _
            exact ⟨_, gt, gk, cap, _, v, _, rfl, HS187a⟩
          refine AllReadyH.cons (o := { dst := some 5, op := Op.alloc 119, type := 0, pos := "l6_aes.go:213", after := #[], guard := none }) rfl (fun K' hK' => ?_) AllReadyH.nil
          go_simp
          have HB189 := HB182.alloc HB182.size (.cells #[.int .u8 0, .int .u8 0, .int .u8 0, .int .u8 0, .int .u8 0, .int .u8 0, .int .u8 0, .int .u8 0, .int .u8 0, .int .u8 0, .int .u8 0, .int .u8 0, .int .u8 0, .int .u8 0, .int .u8 0, .int .u8 0] 119)
          have aBx188 := HB182.size
          have nex188 : ∀ g, v.ownBlock = some g → g ≠ w181.heap.size := fun g hg => by have := (owns_own Lw181 g hg).2; omega
          have Tx188 := RBlater Tw181 (below_box _ (.cells #[.int .u8 0, .int .u8 0, .int .u8 0, .int .u8 0, .int .u8 0, .int .u8 0, .int .u8 0, .int .u8 0, .int .u8 0, .int .u8 0, .int .u8 0, .int .u8 0, .int .u8 0, .int .u8 0, .int .u8 0, .int .u8 0] 119))
          have Kx188 := Kw181.later (below_box _ (.cells #[.int .u8 0, .int .u8 0, .int .u8 0, .int .u8 0, .int .u8 0, .int .u8 0, .int .u8 0, .int .u8 0, .int .u8 0, .int .u8 0, .int .u8 0, .int .u8 0, .int .u8 0, .int .u8 0, .int .u8 0, .int .u8 0] 119))
          have Lx188 := owns_below Lw181 (below_box _ (.cells #[.int .u8 0, .int .u8 0, .int .u8 0, .int .u8 0, .int .u8 0, .int .u8 0, .int .u8 0, .int .u8 0, .int .u8 0, .int .u8 0, .int .u8 0, .int .u8 0, .int .u8 0, .int .u8 0, .int .u8 0, .int .u8 0] 119))
          have Rx188 : RB (w181.alloc (.cells #[.int .u8 0, .int .u8 0, .int .u8 0, .int .u8 0, .int .u8 0, .int .u8 0, .int .u8 0, .int .u8 0, .int .u8 0, .int .u8 0, .int .u8 0, .int .u8 0, .int .u8 0, .int .u8 0, .int .u8 0, .int .u8 0] 119)) w181.heap.size 16 119 (fun _ => 0) := by
            rw [zeroG]; exact RB.new w181 16 _ _
          refine hK'.out _ _ HB189 (fun _ => ?_)
          clear hK' K'
          try simp only [Act.put, List.setIfInBounds_toArray, List.set_cons_zero, List.set_cons_succ]
          refine wpAnyH_ready (rs := [6]) (by kernel_rfl) (by simp) ?_
          refine AllReadyH.cons (o := { dst := some 4, op := Op.alloc 116, type := 0, pos := "l6_aes.go:213", after := #[], guard := none }) rfl (fun K' hK' => ?_) AllReadyH.nil
          go_simp
          have HB191 := HB189.alloc HB189.size (.cells #[.pointer none, .slice none 0 0] 116)
          have cBx190 := HB189.size
          have Tx190 := RBlater Tx188 (below_box _ (.cells #[.pointer none, .slice none 0 0] 116))
          have Kx190 := Kx188.later (below_box _ (.cells #[.pointer none, .slice none 0 0] 116))
          have Rx190 := RBlater Rx188 (below_box _ (.cells #[.pointer none, .slice none 0 0] 116))
          have Lx190 := owns_below Lx188 (below_box _ (.cells #[.pointer none, .slice none 0 0] 116))
          have qx190 : (w181.alloc (.cells #[.int .u8 0, .int .u8 0, .int .u8 0, .int .u8 0, .int .u8 0, .int .u8 0, .int .u8 0, .int .u8 0, .int .u8 0, .int .u8 0, .int .u8 0, .int .u8 0, .int .u8 0, .int .u8 0, .int .u8 0, .int .u8 0] 119)).heap.size = (w181.heap.size + 1) := by simp
          have Zx190 : CZ ((w181.alloc (.cells #[.int .u8 0, .int .u8 0, .int .u8 0, .int .u8 0, .int .u8 0, .int .u8 0, .int .u8 0, .int .u8 0, .int .u8 0, .int .u8 0, .int .u8 0, .int .u8 0, .int .u8 0, .int .u8 0, .int .u8 0, .int .u8 0] 119)).alloc (.cells #[.pointer none, .slice none 0 0] 116)) (w181.heap.size + 1) := by have := CZ.new (w181.alloc (.cells #[.int .u8 0, .int .u8 0, .int .u8 0, .int .u8 0, .int .u8 0, .int .u8 0, .int .u8 0, .int .u8 0, .int .u8 0, .int .u8 0, .int .u8 0, .int .u8 0, .int .u8 0, .int .u8 0, .int .u8 0, .int .u8 0] 119)); rw [qx190] at this; exact this
          rw [qx190] at cBx190
          refine hK'.out _ _ HB191 (fun _ => ?_)
          clear hK' K'
          try simp only [Act.put, List.setIfInBounds_toArray, List.set_cons_zero, List.set_cons_succ]
          obtain ⟨HS192, HS192r⟩ := HS.start (cap := cap) HB191 Zx190 Tx190 Kx190 Rx190 Lx190 wBw181 kBw181 nex188 cBx190 aBx188
          refine wpAnyH_ready (rs := [8]) (by kernel_rfl) (by simp) ?_
          refine AllReadyH.cons (o := { dst := none, op := Op.store 116 (Operand.tmp 4) (Operand.tmp 10), type := 0, pos := "l6_aes.go:213", after := #[{ on := 6, ground := Ground.data }, { on := 1, ground := Ground.data }, { on := 5, ground := Ground.chain }, { on := 0, ground := Ground.phase }, { on := 1, ground := Ground.phase }, { on := 2, ground := Ground.textOnly Departure.lateStores }, { on := 3, ground := Ground.textOnly Departure.lateStoresUnsure }, { on := 4, ground := Ground.textOnly Departure.lateStores }, { on := 5, ground := Ground.textOnly Departure.lateStoresUnsure }, { on := 6, ground := Ground.phase }, { on := 7, ground := Ground.phase }], guard := none }) rfl (fun K' hK' => ?_) AllReadyH.nil
          rw [if_pos (by rfl)]
          refine wp_store_row 116 _ _ rfl _ #[.pointer (some ⟨gt, 0, none⟩), .slice (some ⟨gk, 0, none⟩) 11 cap] rfl rfl 116 _ Zx190 sizeC rfl (oneC _ _ _ _) ?_
          refine hK'.out _ _ HS192.bel (fun _ => ?_)
          clear hK' K'
          try simp only [Act.put, List.setIfInBounds_toArray, List.set_cons_zero, List.set_cons_succ]
          refine wpAnyH_ready (rs := [9]) (by kernel_rfl) (by simp) ?_
          refine AllReadyH.cons (o := { dst := none, op := Op.store 119 (Operand.tmp 5) (Operand.tmp 12), type := 0, pos := "l6_aes.go:213", after := #[{ on := 7, ground := Ground.data }, { on := 3, ground := Ground.data }, { on := 8, ground := Ground.chain }, { on := 0, ground := Ground.phase }, { on := 1, ground := Ground.phase }, { on := 2, ground := Ground.phase }, { on := 3, ground := Ground.phase }, { on := 4, ground := Ground.textOnly Departure.lateStores }, { on := 5, ground := Ground.textOnly Departure.lateStoresUnsure }, { on := 6, ground := Ground.phase }, { on := 7, ground := Ground.phase }, { on := 8, ground := Ground.phase }], guard := none }) rfl (fun K' hK' => ?_) AllReadyH.nil
          rw [if_pos (by rfl)]
          refine wp_store_row 119 _ _ rfl _ (rC 16 (bn t)) rfl rfl 119 _ HS192r sizeG rfl (rC_one _ _) ?_
          have HS192a := HS192.setA (bn t)
          refine hK'.out _ _ HS192a.bel (fun _ => ?_)
          clear hK' K'
          try simp only [Act.put, List.setIfInBounds_toArray, List.set_cons_zero, List.set_cons_succ]
          refine wpAnyH_ready (rs := [10]) (by kernel_rfl) (by simp) ?_
          refine AllReadyH.cons (o := { dst := some 6, op := Op.assign (Operand.tmp 14), type := 114, pos := "l6_aes.go:213", after := #[{ on := 5, ground := Ground.data }, { on := 9, ground := Ground.chain }, { on := 0, ground := Ground.phase }, { on := 1, ground := Ground.phase }, { on := 2, ground := Ground.phase }, { on := 3, ground := Ground.phase }, { on := 4, ground := Ground.phase }, { on := 5, ground := Ground.phase }, { on := 6, ground := Ground.phase }, { on := 7, ground := Ground.phase }, { on := 8, ground := Ground.phase }, { on := 9, ground := Ground.phase }], guard := none }) rfl (fun K' hK' => ?_) AllReadyH.nil
          go_simp
          refine hK'.out _ _ HS192a.bel (fun _ => ?_)
          clear hK' K'
          try simp only [Act.put, List.setIfInBounds_toArray, List.set_cons_zero, List.set_cons_succ]
          refine wpAnyH_done (by kernel_rfl) ?_ _
          exact ⟨_, gt, gk, cap, _, v, _, rfl, HS192a⟩
        refine AllReadyH.cons (o := { dst := some 4, op := Op.alloc 116, type := 0, pos := "l6_aes.go:213", after := #[], guard := none }) rfl (fun K' hK' => ?_) ?_
        · go_simp
          have HB194 := HB180.alloc HB180.size (.cells #[.pointer none, .slice none 0 0] 116)
          have cBx193 := HB180.size
          have Tx193 := RBlater Tw179 (below_box _ (.cells #[.pointer none, .slice none 0 0] 116))
          have Kx193 := Kw179.later (below_box _ (.cells #[.pointer none, .slice none 0 0] 116))
          have Zx193 := CZ.new w179
          refine hK'.out _ _ HB194 (fun _ => ?_)
          clear hK' K'
          try simp only [Act.put, List.setIfInBounds_toArray, List.set_cons_zero, List.set_cons_succ]
          refine wpAnyH_ready (rs := [5, 7]) (by kernel_rfl) (by simp) ?_
          refine AllReadyH.cons (o := { dst := some 14, op := Op.call { callee := Callee.value (Operand.func 99), args := #[Operand.tmp 13], argTypes := #[9] }, type := 114, pos := "l6_aes.go:213", after := #[{ on := 4, ground := Ground.data }, { on := 3, ground := Ground.chain }], guard := none }) rfl (fun K' hK' => ?_) ?_
          · have kBw195 := Kx193.lt
            have wBw195 := HB194.size
            go_simp
            refine (gridsOf_ok u n _ hu hn).mono ?_
            rintro e w195 ⟨v, rfl, Lw195, HB196'⟩
            have HB196 := HB194.trans (HB196'.mono HB194.size)
            have Tw195 := RBlater Tx193 HB196'
            have Kw195 := Kx193.later HB196'
            have Zw195 := Zx193.later HB196'
            refine hK'.out _ _ HB196 (fun _ => ?_)
            clear hK' K'
            try simp only [Act.put, List.setIfInBounds_toArray, List.set_cons_zero, List.set_cons_succ]
            refine wpAnyH_ready (rs := [7]) (by kernel_rfl) (by simp) ?_
            refine AllReadyH.cons (o := { dst := some 5, op := Op.alloc 119, type := 0, pos := "l6_aes.go:213", after := #[], guard := none }) rfl (fun K' hK' => ?_) AllReadyH.nil
            go_simp
            have HB198 := HB196.alloc HB196.size (.cells #[.int .u8 0, .int .u8 0, .int .u8 0, .int .u8 0, .int .u8 0, .int .u8 0, .int .u8 0, .int .u8 0, .int .u8 0, .int .u8 0, .int .u8 0, .int .u8 0, .int .u8 0, .int .u8 0, .int .u8 0, .int .u8 0] 119)
            have aBx197 := HB196.size
            have nex197 : ∀ g, v.ownBlock = some g → g ≠ w195.heap.size := fun g hg => by have := (owns_own Lw195 g hg).2; omega
            have Tx197 := RBlater Tw195 (below_box _ (.cells #[.int .u8 0, .int .u8 0, .int .u8 0, .int .u8 0, .int .u8 0, .int .u8 0, .int .u8 0, .int .u8 0, .int .u8 0, .int .u8 0, .int .u8 0, .int .u8 0, .int .u8 0, .int .u8 0, .int .u8 0, .int .u8 0] 119))
            have Kx197 := Kw195.later (below_box _ (.cells #[.int .u8 0, .int .u8 0, .int .u8 0, .int .u8 0, .int .u8 0, .int .u8 0, .int .u8 0, .int .u8 0, .int .u8 0, .int .u8 0, .int .u8 0, .int .u8 0, .int .u8 0, .int .u8 0, .int .u8 0, .int .u8 0] 119))
            have Zx197 := Zw195.later (below_box _ (.cells #[.int .u8 0, .int .u8 0, .int .u8 0, .int .u8 0, .int .u8 0, .int .u8 0, .int .u8 0, .int .u8 0, .int .u8 0, .int .u8 0, .int .u8 0, .int .u8 0, .int .u8 0, .int .u8 0, .int .u8 0, .int .u8 0] 119))
            have Lx197 := owns_below Lw195 (below_box _ (.cells #[.int .u8 0, .int .u8 0, .int .u8 0, .int .u8 0, .int .u8 0, .int .u8 0, .int .u8 0, .int .u8 0, .int .u8 0, .int .u8 0, .int .u8 0, .int .u8 0, .int .u8 0, .int .u8 0, .int .u8 0, .int .u8 0] 119))
            have Rx197 : RB (w195.alloc (.cells #[.int .u8 0, .int .u8 0, .int .u8 0, .int .u8 0, .int .u8 0, .int .u8 0, .int .u8 0, .int .u8 0, .int .u8 0, .int .u8 0, .int .u8 0, .int .u8 0, .int .u8 0, .int .u8 0, .int .u8 0, .int .u8 0] 119)) w195.heap.size 16 119 (fun _ => 0) := by
              rw [zeroG]; exact RB.new w195 16 _ _
            refine hK'.out _ _ HB198 (fun _ => ?_)
            clear hK' K'
            try simp only [Act.put, List.setIfInBounds_toArray, List.set_cons_zero, List.set_cons_succ]
            obtain ⟨HS199, HS199r⟩ := HS.start (cap := cap) HB198 Zx197 Tx197 Kx197 Rx197 Lx197 wBw195 kBw195 nex197 cBx193 aBx197
            refine wpAnyH_ready (rs := [8]) (by kernel_rfl) (by simp) ?_
            refine AllReadyH.cons (o := { dst := none, op := Op.store 116 (Operand.tmp 4) (Operand.tmp 10), type := 0, pos := "l6_aes.go:213", after := #[{ on := 6, ground := Ground.data }, { on := 1, ground := Ground.data }, { on := 5, ground := Ground.chain }, { on := 0, ground := Ground.phase }, { on := 1, ground := Ground.phase }, { on := 2, ground := Ground.textOnly Departure.lateStores }, { on := 3, ground := Ground.textOnly Departure.lateStoresUnsure }, { on := 4, ground := Ground.textOnly Departure.lateStores }, { on := 5, ground := Ground.textOnly Departure.lateStoresUnsure }, { on := 6, ground := Ground.phase }, { on := 7, ground := Ground.phase }], guard := none }) rfl (fun K' hK' => ?_) AllReadyH.nil
            rw [if_pos (by rfl)]
            refine wp_store_row 116 _ _ rfl _ #[.pointer (some ⟨gt, 0, none⟩), .slice (some ⟨gk, 0, none⟩) 11 cap] rfl rfl 116 _ Zx197 sizeC rfl (oneC _ _ _ _) ?_
            refine hK'.out _ _ HS199.bel (fun _ => ?_)
            clear hK' K'
            try simp only [Act.put, List.setIfInBounds_toArray, List.set_cons_zero, List.set_cons_succ]
            refine wpAnyH_ready (rs := [9]) (by kernel_rfl) (by simp) ?_
            refine AllReadyH.cons (o := { dst := none, op := Op.store 119 (Operand.tmp 5) (Operand.tmp 12), type := 0, pos := "l6_aes.go:213", after := #[{ on := 7, ground := Ground.data }, { on := 3, ground := Ground.data }, { on := 8, ground := Ground.chain }, { on := 0, ground := Ground.phase }, { on := 1, ground := Ground.phase }, { on := 2, ground := Ground.phase }, { on := 3, ground := Ground.phase }, { on := 4, ground := Ground.textOnly Departure.lateStores }, { on := 5, ground := Ground.textOnly Departure.lateStoresUnsure }, { on := 6, ground := Ground.phase }, { on := 7, ground := Ground.phase }, { on := 8, ground := Ground.phase }], guard := none }) rfl (fun K' hK' => ?_) AllReadyH.nil
            rw [if_pos (by rfl)]
            refine wp_store_row 119 _ _ rfl _ (rC 16 (bn t)) rfl rfl 119 _ HS199r sizeG rfl (rC_one _ _) ?_
            have HS199a := HS199.setA (bn t)
            refine hK'.out _ _ HS199a.bel (fun _ => ?_)
            clear hK' K'
            try simp only [Act.put, List.setIfInBounds_toArray, List.set_cons_zero, List.set_cons_succ]
            refine wpAnyH_ready (rs := [10]) (by kernel_rfl) (by simp) ?_
            refine AllReadyH.cons (o := { dst := some 6, op := Op.assign (Operand.tmp 14), type := 114, pos := "l6_aes.go:213", after := #[{ on := 5, ground := Ground.data }, { on := 9, ground := Ground.chain }, { on := 0, ground := Ground.phase }, { on := 1, ground := Ground.phase }, { on := 2, ground := Ground.phase }, { on := 3, ground := Ground.phase }, { on := 4, ground := Ground.phase }, { on := 5, ground := Ground.phase }, { on := 6, ground := Ground.phase }, { on := 7, ground := Ground.phase }, { on := 8, ground := Ground.phase }, { on := 9, ground := Ground.phase }], guard := none }) rfl (fun K' hK' => ?_) AllReadyH.nil
            go_simp
            refine hK'.out _ _ HS199a.bel (fun _ => ?_)
            clear hK' K'
            try simp only [Act.put, List.setIfInBounds_toArray, List.set_cons_zero, List.set_cons_succ]
            refine wpAnyH_done (by kernel_rfl) ?_ _
            exact ⟨_, gt, gk, cap, _, v, _, rfl, HS199a⟩
          refine AllReadyH.cons (o := { dst := some 5, op := Op.alloc 119, type := 0, pos := "l6_aes.go:213", after := #[], guard := none }) rfl (fun K' hK' => ?_) AllReadyH.nil
          go_simp
          have HB201 := HB194.alloc HB194.size (.cells #[.int .u8 0, .int .u8 0, .int .u8 0, .int .u8 0, .int .u8 0, .int .u8 0, .int .u8 0, .int .u8 0, .int .u8 0, .int .u8 0, .int .u8 0, .int .u8 0, .int .u8 0, .int .u8 0, .int .u8 0, .int .u8 0] 119)
          have aBx200 := HB194.size
          have Tx200 := RBlater Tx193 (below_box _ (.cells #[.int .u8 0, .int .u8 0, .int .u8 0, .int .u8 0, .int .u8 0, .int .u8 0, .int .u8 0, .int .u8 0, .int .u8 0, .int .u8 0, .int .u8 0, .int .u8 0, .int .u8 0, .int .u8 0, .int .u8 0, .int .u8 0] 119))
          have Kx200 := Kx193.later (below_box _ (.cells #[.int .u8 0, .int .u8 0, .int .u8 0, .int .u8 0, .int .u8 0, .int .u8 0, .int .u8 0, .int .u8 0, .int .u8 0, .int .u8 0, .int .u8 0, .int .u8 0, .int .u8 0, .int .u8 0, .int .u8 0, .int .u8 0] 119))
          have Zx200 := Zx193.later (below_box _ (.cells #[.int .u8 0, .int .u8 0, .int .u8 0, .int .u8 0, .int .u8 0, .int .u8 0, .int .u8 0, .int .u8 0, .int .u8 0, .int .u8 0, .int .u8 0, .int .u8 0, .int .u8 0, .int .u8 0, .int .u8 0, .int .u8 0] 119))
          have Rx200 : RB ((w179.alloc (.cells #[.pointer none, .slice none 0 0] 116)).alloc (.cells #[.int .u8 0, .int .u8 0, .int .u8 0, .int .u8 0, .int .u8 0, .int .u8 0, .int .u8 0, .int .u8 0, .int .u8 0, .int .u8 0, .int .u8 0, .int .u8 0, .int .u8 0, .int .u8 0, .int .u8 0, .int .u8 0] 119)) (w179.alloc (.cells #[.pointer none, .slice none 0 0] 116)).heap.size 16 119 (fun _ => 0) := by
            rw [zeroG]; exact RB.new (w179.alloc (.cells #[.pointer none, .slice none 0 0] 116)) 16 _ _
          have qx200 : (w179.alloc (.cells #[.pointer none, .slice none 0 0] 116)).heap.size = (w179.heap.size + 1) := by simp
          rw [qx200] at Rx200 aBx200
          refine hK'.out _ _ HB201 (fun _ => ?_)
          clear hK' K'
          try simp only [Act.put, List.setIfInBounds_toArray, List.set_cons_zero, List.set_cons_succ]
          refine wpAnyH_ready (rs := [5]) (by kernel_rfl) (by simp) ?_
          refine AllReadyH.cons (o := { dst := some 14, op := Op.call { callee := Callee.value (Operand.func 99), args := #[Operand.tmp 13], argTypes := #[9] }, type := 114, pos := "l6_aes.go:213", after := #[{ on := 4, ground := Ground.data }, { on := 3, ground := Ground.chain }], guard := none }) rfl (fun K' hK' => ?_) AllReadyH.nil
          have kBw202 := Kx200.lt
          have aLw202 := Rx200.lt
          have wBw202 := HB201.size
          go_simp
          refine (gridsOf_ok u n _ hu hn).mono ?_
          rintro e w202 ⟨v, rfl, Lw202, HB203'⟩
          have HB203 := HB201.trans (HB203'.mono HB201.size)
          have new202 : ∀ g, v.ownBlock = some g → g ≠ (w179.heap.size + 1) := fun g hg => by have := (owns_own Lw202 g hg).1; omega
          have Tw202 := RBlater Tx200 HB203'
          have Kw202 := Kx200.later HB203'
          have Rw202 := RBlater Rx200 HB203'
          have Zw202 := Zx200.later HB203'
          refine hK'.out _ _ HB203 (fun _ => ?_)
          clear hK' K'
          try simp only [Act.put, List.setIfInBounds_toArray, List.set_cons_zero, List.set_cons_succ]
          obtain ⟨HS204, HS204r⟩ := HS.start (cap := cap) HB203 Zw202 Tw202 Kw202 Rw202 Lw202 wBw202 kBw202 new202 cBx193 aBx200
          refine wpAnyH_ready (rs := [8]) (by kernel_rfl) (by simp) ?_
          refine AllReadyH.cons (o := { dst := none, op := Op.store 116 (Operand.tmp 4) (Operand.tmp 10), type := 0, pos := "l6_aes.go:213", after := #[{ on := 6, ground := Ground.data }, { on := 1, ground := Ground.data }, { on := 5, ground := Ground.chain }, { on := 0, ground := Ground.phase }, { on := 1, ground := Ground.phase }, { on := 2, ground := Ground.textOnly Departure.lateStores }, { on := 3, ground := Ground.textOnly Departure.lateStoresUnsure }, { on := 4, ground := Ground.textOnly Departure.lateStores }, { on := 5, ground := Ground.textOnly Departure.lateStoresUnsure }, { on := 6, ground := Ground.phase }, { on := 7, ground := Ground.phase }], guard := none }) rfl (fun K' hK' => ?_) AllReadyH.nil
          rw [if_pos (by rfl)]
          refine wp_store_row 116 _ _ rfl _ #[.pointer (some ⟨gt, 0, none⟩), .slice (some ⟨gk, 0, none⟩) 11 cap] rfl rfl 116 _ Zw202 sizeC rfl (oneC _ _ _ _) ?_
          refine hK'.out _ _ HS204.bel (fun _ => ?_)
          clear hK' K'
          try simp only [Act.put, List.setIfInBounds_toArray, List.set_cons_zero, List.set_cons_succ]
          refine wpAnyH_ready (rs := [9]) (by kernel_rfl) (by simp) ?_
          refine AllReadyH.cons (o := { dst := none, op := Op.store 119 (Operand.tmp 5) (Operand.tmp 12), type := 0, pos := "l6_aes.go:213", after := #[{ on := 7, ground := Ground.data }, { on := 3, ground := Ground.data }, { on := 8, ground := Ground.chain }, { on := 0, ground := Ground.phase }, { on := 1, ground := Ground.phase }, { on := 2, ground := Ground.phase }, { on := 3, ground := Ground.phase }, { on := 4, ground := Ground.textOnly Departure.lateStores }, { on := 5, ground := Ground.textOnly Departure.lateStoresUnsure }, { on := 6, ground := Ground.phase }, { on := 7, ground := Ground.phase }, { on := 8, ground := Ground.phase }], guard := none }) rfl (fun K' hK' => ?_) AllReadyH.nil
          rw [if_pos (by rfl)]
          refine wp_store_row 119 _ _ rfl _ (rC 16 (bn t)) rfl rfl 119 _ HS204r sizeG rfl (rC_one _ _) ?_
          have HS204a := HS204.setA (bn t)
          refine hK'.out _ _ HS204a.bel (fun _ => ?_)
          clear hK' K'
          try simp only [Act.put, List.setIfInBounds_toArray, List.set_cons_zero, List.set_cons_succ]
          refine wpAnyH_ready (rs := [10]) (by kernel_rfl) (by simp) ?_
          refine AllReadyH.cons (o := { dst := some 6, op := Op.assign (Operand.tmp 14), type := 114, pos := "l6_aes.go:213", after := #[{ on := 5, ground := Ground.data }, { on := 9, ground := Ground.chain }, { on := 0, ground := Ground.phase }, { on := 1, ground := Ground.phase }, { on := 2, ground := Ground.phase }, { on := 3, ground := Ground.phase }, { on := 4, ground := Ground.phase }, { on := 5, ground := Ground.phase }, { on := 6, ground := Ground.phase }, { on := 7, ground := Ground.phase }, { on := 8, ground := Ground.phase }, { on := 9, ground := Ground.phase }], guard := none }) rfl (fun K' hK' => ?_) AllReadyH.nil
          go_simp
          refine hK'.out _ _ HS204a.bel (fun _ => ?_)
          clear hK' K'
          try simp only [Act.put, List.setIfInBounds_toArray, List.set_cons_zero, List.set_cons_succ]
          refine wpAnyH_done (by kernel_rfl) ?_ _
          exact ⟨_, gt, gk, cap, _, v, _, rfl, HS204a⟩
        refine AllReadyH.cons (o := { dst := some 5, op := Op.alloc 119, type := 0, pos := "l6_aes.go:213", after := #[], guard := none }) rfl (fun K' hK' => ?_) AllReadyH.nil
        go_simp
        have HB206 := HB180.alloc HB180.size (.cells #[.int .u8 0, .int .u8 0, .int .u8 0, .int .u8 0, .int .u8 0, .int .u8 0, .int .u8 0, .int .u8 0, .int .u8 0, .int .u8 0, .int .u8 0, .int .u8 0, .int .u8 0, .int .u8 0, .int .u8 0, .int .u8 0] 119)
        have aBx205 := HB180.size
        have Tx205 := RBlater Tw179 (below_box _ (.cells #[.int .u8 0, .int .u8 0, .int .u8 0, .int .u8 0, .int .u8 0, .int .u8 0, .int .u8 0, .int .u8 0, .int .u8 0, .int .u8 0, .int .u8 0, .int .u8 0, .int .u8 0, .int .u8 0, .int .u8 0, .int .u8 0] 119))
        have Kx205 := Kw179.later (below_box _ (.cells #[.int .u8 0, .int .u8 0, .int .u8 0, .int .u8 0, .int .u8 0, .int .u8 0, .int .u8 0, .int .u8 0, .int .u8 0, .int .u8 0, .int .u8 0, .int .u8 0, .int .u8 0, .int .u8 0, .int .u8 0, .int .u8 0] 119))
        have Rx205 : RB (w179.alloc (.cells #[.int .u8 0, .int .u8 0, .int .u8 0, .int .u8 0, .int .u8 0, .int .u8 0, .int .u8 0, .int .u8 0, .int .u8 0, .int .u8 0, .int .u8 0, .int .u8 0, .int .u8 0, .int .u8 0, .int .u8 0, .int .u8 0] 119)) w179.heap.size 16 119 (fun _ => 0) := by
          rw [zeroG]; exact RB.new w179 16 _ _
        refine hK'.out _ _ HB206 (fun _ => ?_)
        clear hK' K'
        try simp only [Act.put, List.setIfInBounds_toArray, List.set_cons_zero, List.set_cons_succ]
        refine wpAnyH_ready (rs := [5, 6]) (by kernel_rfl) (by simp) ?_
        refine AllReadyH.cons (o := { dst := some 14, op := Op.call { callee := Callee.value (Operand.func 99), args := #[Operand.tmp 13], argTypes := #[9] }, type := 114, pos := "l6_aes.go:213", after := #[{ on := 4, ground := Ground.data }, { on := 3, ground := Ground.chain }], guard := none }) rfl (fun K' hK' => ?_) ?_
        · have kBw207 := Kx205.lt
          have aLw207 := Rx205.lt
          have wBw207 := HB206.size
          go_simp
          refine (gridsOf_ok u n _ hu hn).mono ?_
          rintro e w207 ⟨v, rfl, Lw207, HB208'⟩
          have HB208 := HB206.trans (HB208'.mono HB206.size)
          have new207 : ∀ g, v.ownBlock = some g → g ≠ w179.heap.size := fun g hg => by have := (owns_own Lw207 g hg).1; omega
          have Tw207 := RBlater Tx205 HB208'
          have Kw207 := Kx205.later HB208'
          have Rw207 := RBlater Rx205 HB208'
          refine hK'.out _ _ HB208 (fun _ => ?_)
          clear hK' K'
          try simp only [Act.put, List.setIfInBounds_toArray, List.set_cons_zero, List.set_cons_succ]
          refine wpAnyH_ready (rs := [6]) (by kernel_rfl) (by simp) ?_
          refine AllReadyH.cons (o := { dst := some 4, op := Op.alloc 116, type := 0, pos := "l6_aes.go:213", after := #[], guard := none }) rfl (fun K' hK' => ?_) AllReadyH.nil
          go_simp
          have HB210 := HB208.alloc HB208.size (.cells #[.pointer none, .slice none 0 0] 116)
          have cBx209 := HB208.size
          have Tx209 := RBlater Tw207 (below_box _ (.cells #[.pointer none, .slice none 0 0] 116))
          have Kx209 := Kw207.later (below_box _ (.cells #[.pointer none, .slice none 0 0] 116))
          have Rx209 := RBlater Rw207 (below_box _ (.cells #[.pointer none, .slice none 0 0] 116))
          have Lx209 := owns_below Lw207 (below_box _ (.cells #[.pointer none, .slice none 0 0] 116))
          have Zx209 := CZ.new w207
          refine hK'.out _ _ HB210 (fun _ => ?_)
          clear hK' K'
          try simp only [Act.put, List.setIfInBounds_toArray, List.set_cons_zero, List.set_cons_succ]
          obtain ⟨HS211, HS211r⟩ := HS.start (cap := cap) HB210 Zx209 Tx209 Kx209 Rx209 Lx209 wBw207 kBw207 new207 cBx209 aBx205
          refine wpAnyH_ready (rs := [8]) (by kernel_rfl) (by simp) ?_
          refine AllReadyH.cons (o := { dst := none, op := Op.store 116 (Operand.tmp 4) (Operand.tmp 10), type := 0, pos := "l6_aes.go:213", after := #[{ on := 6, ground := Ground.data }, { on := 1, ground := Ground.data }, { on := 5, ground := Ground.chain }, { on := 0, ground := Ground.phase }, { on := 1, ground := Ground.phase }, { on := 2, ground := Ground.textOnly Departure.lateStores }, { on := 3, ground := Ground.textOnly Departure.lateStoresUnsure }, { on := 4, ground := Ground.textOnly Departure.lateStores }, { on := 5, ground := Ground.textOnly Departure.lateStoresUnsure }, { on := 6, ground := Ground.phase }, { on := 7, ground := Ground.phase }], guard := none }) rfl (fun K' hK' => ?_) AllReadyH.nil
          rw [if_pos (by rfl)]
          refine wp_store_row 116 _ _ rfl _ #[.pointer (some ⟨gt, 0, none⟩), .slice (some ⟨gk, 0, none⟩) 11 cap] rfl rfl 116 _ Zx209 sizeC rfl (oneC _ _ _ _) ?_
          refine hK'.out _ _ HS211.bel (fun _ => ?_)
          clear hK' K'
          try simp only [Act.put, List.setIfInBounds_toArray, List.set_cons_zero, List.set_cons_succ]
          refine wpAnyH_ready (rs := [9]) (by kernel_rfl) (by simp) ?_
          refine AllReadyH.cons (o := { dst := none, op := Op.store 119 (Operand.tmp 5) (Operand.tmp 12), type := 0, pos := "l6_aes.go:213", after := #[{ on := 7, ground := Ground.data }, { on := 3, ground := Ground.data }, { on := 8, ground := Ground.chain }, { on := 0, ground := Ground.phase }, { on := 1, ground := Ground.phase }, { on := 2, ground := Ground.phase }, { on := 3, ground := Ground.phase }, { on := 4, ground := Ground.textOnly Departure.lateStores }, { on := 5, ground := Ground.textOnly Departure.lateStoresUnsure }, { on := 6, ground := Ground.phase }, { on := 7, ground := Ground.phase }, { on := 8, ground := Ground.phase }], guard := none }) rfl (fun K' hK' => ?_) AllReadyH.nil
          rw [if_pos (by rfl)]
          refine wp_store_row 119 _ _ rfl _ (rC 16 (bn t)) rfl rfl 119 _ HS211r sizeG rfl (rC_one _ _) ?_
          have HS211a := HS211.setA (bn t)
          refine hK'.out _ _ HS211a.bel (fun _ => ?_)
          clear hK' K'
          try simp only [Act.put, List.setIfInBounds_toArray, List.set_cons_zero, List.set_cons_succ]
          refine wpAnyH_ready (rs := [10]) (by kernel_rfl) (by simp) ?_
          refine AllReadyH.cons (o := { dst := some 6, op := Op.assign (Operand.tmp 14), type := 114, pos := "l6_aes.go:213", after := #[{ on := 5, ground := Ground.data }, { on := 9, ground := Ground.chain }, { on := 0, ground := Ground.phase }, { on := 1, ground := Ground.phase }, { on := 2, ground := Ground.phase }, { on := 3, ground := Ground.phase }, { on := 4, ground := Ground.phase }, { on := 5, ground := Ground.phase }, { on := 6, ground := Ground.phase }, { on := 7, ground := Ground.phase }, { on := 8, ground := Ground.phase }, { on := 9, ground := Ground.phase }], guard := none }) rfl (fun K' hK' => ?_) AllReadyH.nil
          go_simp
          refine hK'.out _ _ HS211a.bel (fun _ => ?_)
          clear hK' K'
          try simp only [Act.put, List.setIfInBounds_toArray, List.set_cons_zero, List.set_cons_succ]
          refine wpAnyH_done (by kernel_rfl) ?_ _
          exact ⟨_, gt, gk, cap, _, v, _, rfl, HS211a⟩
        refine AllReadyH.cons (o := { dst := some 4, op := Op.alloc 116, type := 0, pos := "l6_aes.go:213", after := #[], guard := none }) rfl (fun K' hK' => ?_) AllReadyH.nil
        go_simp
        have HB213 := HB206.alloc HB206.size (.cells #[.pointer none, .slice none 0 0] 116)
        have cBx212 := HB206.size
        have Tx212 := RBlater Tx205 (below_box _ (.cells #[.pointer none, .slice none 0 0] 116))
        have Kx212 := Kx205.later (below_box _ (.cells #[.pointer none, .slice none 0 0] 116))
        have Rx212 := RBlater Rx205 (below_box _ (.cells #[.pointer none, .slice none 0 0] 116))
        have qx212 : (w179.alloc (.cells #[.int .u8 0, .int .u8 0, .int .u8 0, .int .u8 0, .int .u8 0, .int .u8 0, .int .u8 0, .int .u8 0, .int .u8 0, .int .u8 0, .int .u8 0, .int .u8 0, .int .u8 0, .int .u8 0, .int .u8 0, .int .u8 0] 119)).heap.size = (w179.heap.size + 1) := by simp
        have Zx212 : CZ ((w179.alloc (.cells #[.int .u8 0, .int .u8 0, .int .u8 0, .int .u8 0, .int .u8 0, .int .u8 0, .int .u8 0, .int .u8 0, .int .u8 0, .int .u8 0, .int .u8 0, .int .u8 0, .int .u8 0, .int .u8 0, .int .u8 0, .int .u8 0] 119)).alloc (.cells #[.pointer none, .slice none 0 0] 116)) (w179.heap.size + 1) := by have := CZ.new (w179.alloc (.cells #[.int .u8 0, .int .u8 0, .int .u8 0, .int .u8 0, .int .u8 0, .int .u8 0, .int .u8 0, .int .u8 0, .int .u8 0, .int .u8 0, .int .u8 0, .int .u8 0, .int .u8 0, .int .u8 0, .int .u8 0, .int .u8 0] 119)); rw [qx212] at this; exact this
        rw [qx212] at cBx212
        refine hK'.out _ _ HB213 (fun _ => ?_)
        clear hK' K'
        try simp only [Act.put, List.setIfInBounds_toArray, List.set_cons_zero, List.set_cons_succ]
        refine wpAnyH_ready (rs := [5]) (by kernel_rfl) (by simp) ?_
        refine AllReadyH.cons (o := { dst := some 14, op := Op.call { callee := Callee.value (Operand.func 99), args := #[Operand.tmp 13], argTypes := #[9] }, type := 114, pos := "l6_aes.go:213", after := #[{ on := 4, ground := Ground.data }, { on := 3, ground := Ground.chain }], guard := none }) rfl (fun K' hK' => ?_) AllReadyH.nil
        have kBw214 := Kx212.lt
        have aLw214 := Rx212.lt
        have wBw214 := HB213.size
        go_simp
        refine (gridsOf_ok u n _ hu hn).mono ?_
        rintro e w214 ⟨v, rfl, Lw214, HB215'⟩
        have HB215 := HB213.trans (HB215'.mono HB213.size)
        have new214 : ∀ g, v.ownBlock = some g → g ≠ w179.heap.size := fun g hg => by have := (owns_own Lw214 g hg).1; omega
        have Tw214 := RBlater Tx212 HB215'
        have Kw214 := Kx212.later HB215'
        have Rw214 := RBlater Rx212 HB215'
        have Zw214 := Zx212.later HB215'
        refine hK'.out _ _ HB215 (fun _ => ?_)
        clear hK' K'
        try simp only [Act.put, List.setIfInBounds_toArray, List.set_cons_zero, List.set_cons_succ]
        obtain ⟨HS216, HS216r⟩ := HS.start (cap := cap) HB215 Zw214 Tw214 Kw214 Rw214 Lw214 wBw214 kBw214 new214 cBx212 aBx205
        refine wpAnyH_ready (rs := [8]) (by kernel_rfl) (by simp) ?_
        refine AllReadyH.cons (o := { dst := none, op := Op.store 116 (Operand.tmp 4) (Operand.tmp 10), type := 0, pos := "l6_aes.go:213", after := #[{ on := 6, ground := Ground.data }, { on := 1, ground := Ground.data }, { on := 5, ground := Ground.chain }, { on := 0, ground := Ground.phase }, { on := 1, ground := Ground.phase }, { on := 2, ground := Ground.textOnly Departure.lateStores }, { on := 3, ground := Ground.textOnly Departure.lateStoresUnsure }, { on := 4, ground := Ground.textOnly Departure.lateStores }, { on := 5, ground := Ground.textOnly Departure.lateStoresUnsure }, { on := 6, ground := Ground.phase }, { on := 7, ground := Ground.phase }], guard := none }) rfl (fun K' hK' => ?_) AllReadyH.nil
        rw [if_pos (by rfl)]
        refine wp_store_row 116 _ _ rfl _ #[.pointer (some ⟨gt, 0, none⟩), .slice (some ⟨gk, 0, none⟩) 11 cap] rfl rfl 116 _ Zw214 sizeC rfl (oneC _ _ _ _) ?_
        refine hK'.out _ _ HS216.bel (fun _ => ?_)
        clear hK' K'
        try simp only [Act.put, List.setIfInBounds_toArray, List.set_cons_zero, List.set_cons_succ]
        refine wpAnyH_ready (rs := [9]) (by kernel_rfl) (by simp) ?_
        refine AllReadyH.cons (o := { dst := none, op := Op.store 119 (Operand.tmp 5) (Operand.tmp 12), type := 0, pos := "l6_aes.go:213", after := #[{ on := 7, ground := Ground.data }, { on := 3, ground := Ground.data }, { on := 8, ground := Ground.chain }, { on := 0, ground := Ground.phase }, { on := 1, ground := Ground.phase }, { on := 2, ground := Ground.phase }, { on := 3, ground := Ground.phase }, { on := 4, ground := Ground.textOnly Departure.lateStores }, { on := 5, ground := Ground.textOnly Departure.lateStoresUnsure }, { on := 6, ground := Ground.phase }, { on := 7, ground := Ground.phase }, { on := 8, ground := Ground.phase }], guard := none }) rfl (fun K' hK' => ?_) AllReadyH.nil
        rw [if_pos (by rfl)]
        refine wp_store_row 119 _ _ rfl _ (rC 16 (bn t)) rfl rfl 119 _ HS216r sizeG rfl (rC_one _ _) ?_
        have HS216a := HS216.setA (bn t)
        refine hK'.out _ _ HS216a.bel (fun _ => ?_)
        clear hK' K'
        try simp only [Act.put, List.setIfInBounds_toArray, List.set_cons_zero, List.set_cons_succ]
        refine wpAnyH_ready (rs := [10]) (by kernel_rfl) (by simp) ?_
        refine AllReadyH.cons (o := { dst := some 6, op := Op.assign (Operand.tmp 14), type := 114, pos := "l6_aes.go:213", after := #[{ on := 5, ground := Ground.data }, { on := 9, ground := Ground.chain }, { on := 0, ground := Ground.phase }, { on := 1, ground := Ground.phase }, { on := 2, ground := Ground.phase }, { on := 3, ground := Ground.phase }, { on := 4, ground := Ground.phase }, { on := 5, ground := Ground.phase }, { on := 6, ground := Ground.phase }, { on := 7, ground := Ground.phase }, { on := 8, ground := Ground.phase }, { on := 9, ground := Ground.phase }], guard := none }) rfl (fun K' hK' => ?_) AllReadyH.nil
        go_simp
        refine hK'.out _ _ HS216a.bel (fun _ => ?_)
        clear hK' K'
        try simp only [Act.put, List.setIfInBounds_toArray, List.set_cons_zero, List.set_cons_succ]
        refine wpAnyH_done (by kernel_rfl) ?_ _
        exact ⟨_, gt, gk, cap, _, v, _, rfl, HS216a⟩
      refine AllReadyH.cons (o := { dst := some 4, op := Op.alloc 116, type := 0, pos := "l6_aes.go:213", after := #[], guard := none }) rfl (fun K' hK' => ?_) ?_
      · go_simp
        have HB218 := HB178.alloc HB178.size (.cells #[.pointer none, .slice none 0 0] 116)
        have cBx217 := HB178.size
        have Tx217 := RBlater Tw177 (below_box _ (.cells #[.pointer none, .slice none 0 0] 116))
        have Kx217 := Kw177.later (below_box _ (.cells #[.pointer none, .slice none 0 0] 116))
        have Zx217 := CZ.new w177
        refine hK'.out _ _ HB218 (fun _ => ?_)
        clear hK' K'
        try simp only [Act.put, List.setIfInBounds_toArray, List.set_cons_zero, List.set_cons_succ]
        refine wpAnyH_ready (rs := [3, 7]) (by kernel_rfl) (by simp) ?_
        refine AllReadyH.cons (o := { dst := some 12, op := Op.call { callee := Callee.value (Operand.func 98), args := #[Operand.tmp 11], argTypes := #[9] }, type := 119, pos := "l6_aes.go:213", after := #[{ on := 2, ground := Ground.data }, { on := 1, ground := Ground.chain }], guard := none }) rfl (fun K' hK' => ?_) ?_
        · go_simp
          refine (gridOf_ok t _ ht).mono ?_
          rintro e w219 ⟨rfl, HB220'⟩
          have HB220 := HB218.trans (HB220'.mono HB218.size)
          have Tw219 := RBlater Tx217 HB220'
          have Kw219 := Kx217.later HB220'
          have Zw219 := Zx217.later HB220'
          refine hK'.out _ _ HB220 (fun _ => ?_)
          clear hK' K'
          try simp only [Act.put, List.setIfInBounds_toArray, List.set_cons_zero, List.set_cons_succ]
          refine wpAnyH_ready (rs := [5, 7]) (by kernel_rfl) (by simp) ?_
          refine AllReadyH.cons (o := { dst := some 14, op := Op.call { callee := Callee.value (Operand.func 99), args := #[Operand.tmp 13], argTypes := #[9] }, type := 114, pos := "l6_aes.go:213", after := #[{ on := 4, ground := Ground.data }, { on := 3, ground := Ground.chain }], guard := none }) rfl (fun K' hK' => ?_) ?_
          · have kBw221 := Kw219.lt
            have wBw221 := HB220.size
            go_simp
            refine (gridsOf_ok u n _ hu hn).mono ?_
            rintro e w221 ⟨v, rfl, Lw221, HB222'⟩
            have HB222 := HB220.trans (HB222'.mono HB220.size)
            have Tw221 := RBlater Tw219 HB222'
            have Kw221 := Kw219.later HB222'
            have Zw221 := Zw219.later HB222'
            refine hK'.out _ _ HB222 (fun _ => ?_)
            clear hK' K'
            try simp only [Act.put, List.setIfInBounds_toArray, List.set_cons_zero, List.set_cons_succ]
            refine wpAnyH_ready (rs := [7]) (by kernel_rfl) (by simp) ?_
            refine AllReadyH.cons (o := { dst := some 5, op := Op.alloc 119, type := 0, pos := "l6_aes.go:213", after := #[], guard := none }) rfl (fun K' hK' => ?_) AllReadyH.nil
            go_simp
            have HB224 := HB222.alloc HB222.size (.cells #[.int .u8 0, .int .u8 0, .int .u8 0, .int .u8 0, .int .u8 0, .int .u8 0, .int .u8 0, .int .u8 0, .int .u8 0, .int .u8 0, .int .u8 0, .int .u8 0, .int .u8 0, .int .u8 0, .int .u8 0, .int .u8 0] 119)
            have aBx223 := HB222.size
            have nex223 : ∀ g, v.ownBlock = some g → g ≠ w221.heap.size := fun g hg => by have := (owns_own Lw221 g hg).2; omega
            have Tx223 := RBlater Tw221 (below_box _ (.cells #[.int .u8 0, .int .u8 0, .int .u8 0, .int .u8 0, .int .u8 0, .int .u8 0, .int .u8 0, .int .u8 0, .int .u8 0, .int .u8 0, .int .u8 0, .int .u8 0, .int .u8 0, .int .u8 0, .int .u8 0, .int .u8 0] 119))
            have Kx223 := Kw221.later (below_box _ (.cells #[.int .u8 0, .int .u8 0, .int .u8 0, .int .u8 0, .int .u8 0, .int .u8 0, .int .u8 0, .int .u8 0, .int .u8 0, .int .u8 0, .int .u8 0, .int .u8 0, .int .u8 0, .int .u8 0, .int .u8 0, .int .u8 0] 119))
            have Zx223 := Zw221.later (below_box _ (.cells #[.int .u8 0, .int .u8 0, .int .u8 0, .int .u8 0, .int .u8 0, .int .u8 0, .int .u8 0, .int .u8 0, .int .u8 0, .int .u8 0, .int .u8 0, .int .u8 0, .int .u8 0, .int .u8 0, .int .u8 0, .int .u8 0] 119))
            have Lx223 := owns_below Lw221 (below_box _ (.cells #[.int .u8 0, .int .u8 0, .int .u8 0, .int .u8 0, .int .u8 0, .int .u8 0, .int .u8 0, .int .u8 0, .int .u8 0, .int .u8 0, .int .u8 0, .int .u8 0, .int .u8 0, .int .u8 0, .int .u8 0, .int .u8 0] 119))
            have Rx223 : RB (w221.alloc (.cells #[.int .u8 0, .int .u8 0, .int .u8 0, .int .u8 0, .int .u8 0, .int .u8 0, .int .u8 0, .int .u8 0, .int .u8 0, .int .u8 0, .int .u8 0, .int .u8 0, .int .u8 0, .int .u8 0, .int .u8 0, .int .u8 0] 119)) w221.heap.size 16 119 (fun _ => 0) := by
              rw [zeroG]; exact RB.new w221 16 _ _
            refine hK'.out _ _ HB224 (fun _ => ?_)
            clear hK' K'
            try simp only [Act.put, List.setIfInBounds_toArray, List.set_cons_zero, List.set_cons_succ]
            obtain ⟨HS225, HS225r⟩ := HS.start (cap := cap) HB224 Zx223 Tx223 Kx223 Rx223 Lx223 wBw221 kBw221 nex223 cBx217 aBx223
            refine wpAnyH_ready (rs := [8]) (by kernel_rfl) (by simp) ?_
            refine AllReadyH.cons (o := { dst := none, op := Op.store 116 (Operand.tmp 4) (Operand.tmp 10), type := 0, pos := "l6_aes.go:213", after := #[{ on := 6, ground := Ground.data }, { on := 1, ground := Ground.data }, { on := 5, ground := Ground.chain }, { on := 0, ground := Ground.phase }, { on := 1, ground := Ground.phase }, { on := 2, ground := Ground.textOnly Departure.lateStores }, { on := 3, ground := Ground.textOnly Departure.lateStoresUnsure }, { on := 4, ground := Ground.textOnly Departure.lateStores }, { on := 5, ground := Ground.textOnly Departure.lateStoresUnsure }, { on := 6, ground := Ground.phase }, { on := 7, ground := Ground.phase }], guard := none }) rfl (fun K' hK' => ?_) AllReadyH.nil
            rw [if_pos (by rfl)]
            refine wp_store_row 116 _ _ rfl _ #[.pointer (some ⟨gt, 0, none⟩), .slice (some ⟨gk, 0, none⟩) 11 cap] rfl rfl 116 _ Zx223 sizeC rfl (oneC _ _ _ _) ?_
            refine hK'.out _ _ HS225.bel (fun _ => ?_)
            clear hK' K'
            try simp only [Act.put, List.setIfInBounds_toArray, List.set_cons_zero, List.set_cons_succ]
            refine wpAnyH_ready (rs := [9]) (by kernel_rfl) (by simp) ?_
            refine AllReadyH.cons (o := { dst := none, op := Op.store 119 (Operand.tmp 5) (Operand.tmp 12), type := 0, pos := "l6_aes.go:213", after := #[{ on := 7, ground := Ground.data }, { on := 3, ground := Ground.data }, { on := 8, ground := Ground.chain }, { on := 0, ground := Ground.phase }, { on := 1, ground := Ground.phase }, { on := 2, ground := Ground.phase }, { on := 3, ground := Ground.phase }, { on := 4, ground := Ground.textOnly Departure.lateStores }, { on := 5, ground := Ground.textOnly Departure.lateStoresUnsure }, { on := 6, ground := Ground.phase }, { on := 7, ground := Ground.phase }, { on := 8, ground := Ground.phase }], guard := none }) rfl (fun K' hK' => ?_) AllReadyH.nil
            rw [if_pos (by rfl)]
            refine wp_store_row 119 _ _ rfl _ (rC 16 (bn t)) rfl rfl 119 _ HS225r sizeG rfl (rC_one _ _) ?_
            have HS225a := HS225.setA (bn t)
            refine hK'.out _ _ HS225a.bel (fun _ => ?_)
            clear hK' K'
            try simp only [Act.put, List.setIfInBounds_toArray, List.set_cons_zero, List.set_cons_succ]
            refine wpAnyH_ready (rs := [10]) (by kernel_rfl) (by simp) ?_
            refine AllReadyH.cons (o := { dst := some 6, op := Op.assign (Operand.tmp 14), type := 114, pos := "l6_aes.go:213", after := #[{ on := 5, ground := Ground.data }, { on := 9, ground := Ground.chain }, { on := 0, ground := Ground.phase }, { on := 1, ground := Ground.phase }, { on := 2, ground := Ground.phase }, { on := 3, ground := Ground.phase }, { on := 4, ground := Ground.phase }, { on := 5, ground := Ground.phase }, { on := 6, ground := Ground.phase }, { on := 7, ground := Ground.phase }, { on := 8, ground := Ground.phase }, { on := 9, ground := Ground.phase }], guard := none }) rfl (fun K' hK' => ?_) AllReadyH.nil
            go_simp
            refine hK'.out _ _ HS225a.bel (fun _ => ?_)
            clear hK' K'
            try simp only [Act.put, List.setIfInBounds_toArray, List.set_cons_zero, List.set_cons_succ]
            refine wpAnyH_done (by kernel_rfl) ?_ _
            exact ⟨_, gt, gk, cap, _, v, _, rfl, HS225a⟩
          refine AllReadyH.cons (o := { dst := some 5, op := Op.alloc 119, type := 0, pos := "l6_aes.go:213", after := #[], guard := none }) rfl (fun K' hK' => ?_) AllReadyH.nil
          go_simp
          have HB227 := HB220.alloc HB220.size (.cells #[.int .u8 0, .int .u8 0, .int .u8 0, .int .u8 0, .int .u8 0, .int .u8 0, .int .u8 0, .int .u8 0, .int .u8 0, .int .u8 0, .int .u8 0, .int .u8 0, .int .u8 0, .int .u8 0, .int .u8 0, .int .u8 0] 119)
          have aBx226 := HB220.size
          have Tx226 := RBlater Tw219 (below_box _ (.cells #[.int .u8 0, .int .u8 0, .int .u8 0, .int .u8 0, .int .u8 0, .int .u8 0, .int .u8 0, .int .u8 0, .int .u8 0, .int .u8 0, .int .u8 0, .int .u8 0, .int .u8 0, .int .u8 0, .int .u8 0, .int .u8 0] 119))
          have Kx226 := Kw219.later (below_box _ (.cells #[.int .u8 0, .int .u8 0, .int .u8 0, .int .u8 0, .int .u8 0, .int .u8 0, .int .u8 0, .int .u8 0, .int .u8 0, .int .u8 0, .int .u8 0, .int .u8 0, .int .u8 0, .int .u8 0, .int .u8 0, .int .u8 0] 119))
          have Zx226 := Zw219.later (below_box _ (.cells #[.int .u8 0, .int .u8 0, .int .u8 0, .int .u8 0, .int .u8 0, .int .u8 0, .int .u8 0, .int .u8 0, .int .u8 0, .int .u8 0, .int .u8 0, .int .u8 0, .int .u8 0, .int .u8 0, .int .u8 0, .int .u8 0] 119))
          have Rx226 : RB (w219.alloc (.cells #[.int .u8 0, .int .u8 0, .int .u8 0, .int .u8 0, .int .u8 0, .int .u8 0, .int .u8 0, .int .u8 0, .int .u8 0, .int .u8 0, .int .u8 0, .int .u8 0, .int .u8 0, .int .u8 0, .int .u8 0, .int .u8 0] 119)) w219.heap.size 16 119 (fun _ => 0) := by
            rw [zeroG]; exact RB.new w219 16 _ _
          refine hK'.out _ _ HB227 (fun _ => ?_)
          clear hK' K'
          try simp only [Act.put, List.setIfInBounds_toArray, List.set_cons_zero, List.set_cons_succ]
          refine wpAnyH_ready (rs := [5]) (by kernel_rfl) (by simp) ?_
          refine AllReadyH.cons (o := { dst := some 14, op := Op.call { callee := Callee.value (Operand.func 99), args := #[Operand.tmp 13], argTypes := #[9] }, type := 114, pos := "l6_aes.go:213", after := #[{ on := 4, ground := Ground.data }, { on := 3, ground := Ground.chain }], guard := none }) rfl (fun K' hK' => ?_) AllReadyH.nil
          have kBw228 := Kx226.lt
          have aLw228 := Rx226.lt
          have wBw228 := HB227.size
          go_simp
          refine (gridsOf_ok u n _ hu hn).mono ?_
          rintro e w228 ⟨v, rfl, Lw228, HB229'⟩
          have HB229 := HB227.trans (HB229'.mono HB227.size)
          have new228 : ∀ g, v.ownBlock = some g → g ≠ w219.heap.size := fun g hg => by have := (owns_own Lw228 g hg).1; omega
          have Tw228 := RBlater Tx226 HB229'
          have Kw228 := Kx226.later HB229'
          have Rw228 := RBlater Rx226 HB229'
          have Zw228 := Zx226.later HB229'
          refine hK'.out _ _ HB229 (fun _ => ?_)
          clear hK' K'
          try simp only [Act.put, List.setIfInBounds_toArray, List.set_cons_zero, List.set_cons_succ]
          obtain ⟨HS230, HS230r⟩ := HS.start (cap := cap) HB229 Zw228 Tw228 Kw228 Rw228 Lw228 wBw228 kBw228 new228 cBx217 aBx226
          refine wpAnyH_ready (rs := [8]) (by kernel_rfl) (by simp) ?_
          refine AllReadyH.cons (o := { dst := none, op := Op.store 116 (Operand.tmp 4) (Operand.tmp 10), type := 0, pos := "l6_aes.go:213", after := #[{ on := 6, ground := Ground.data }, { on := 1, ground := Ground.data }, { on := 5, ground := Ground.chain }, { on := 0, ground := Ground.phase }, { on := 1, ground := Ground.phase }, { on := 2, ground := Ground.textOnly Departure.lateStores }, { on := 3, ground := Ground.textOnly Departure.lateStoresUnsure }, { on := 4, ground := Ground.textOnly Departure.lateStores }, { on := 5, ground := Ground.textOnly Departure.lateStoresUnsure }, { on := 6, ground := Ground.phase }, { on := 7, ground := Ground.phase }], guard := none }) rfl (fun K' hK' => ?_) AllReadyH.nil
          rw [if_pos (by rfl)]
          refine wp_store_row 116 _ _ rfl _ #[.pointer (some ⟨gt, 0, none⟩), .slice (some ⟨gk, 0, none⟩) 11 cap] rfl rfl 116 _ Zw228 sizeC rfl (oneC _ _ _ _) ?_
          refine hK'.out _ _ HS230.bel (fun _ => ?_)
          clear hK' K'
          try simp only [Act.put, List.setIfInBounds_toArray, List.set_cons_zero, List.set_cons_succ]
          refine wpAnyH_ready (rs := [9]) (by kernel_rfl) (by simp) ?_
          refine AllReadyH.cons (o := { dst := none, op := Op.store 119 (Operand.tmp 5) (Operand.tmp 12), type := 0, pos := "l6_aes.go:213", after := #[{ on := 7, ground := Ground.data }, { on := 3, ground := Ground.data }, { on := 8, ground := Ground.chain }, { on := 0, ground := Ground.phase }, { on := 1, ground := Ground.phase }, { on := 2, ground := Ground.phase }, { on := 3, ground := Ground.phase }, { on := 4, ground := Ground.textOnly Departure.lateStores }, { on := 5, ground := Ground.textOnly Departure.lateStoresUnsure }, { on := 6, ground := Ground.phase }, { on := 7, ground := Ground.phase }, { on := 8, ground := Ground.phase }], guard := none }) rfl (fun K' hK' => ?_) AllReadyH.nil
          rw [if_pos (by rfl)]
          refine wp_store_row 119 _ _ rfl _ (rC 16 (bn t)) rfl rfl 119 _ HS230r sizeG rfl (rC_one _ _) ?_
          have HS230a := HS230.setA (bn t)
          refine hK'.out _ _ HS230a.bel (fun _ => ?_)
          clear hK' K'
          try simp only [Act.put, List.setIfInBounds_toArray, List.set_cons_zero, List.set_cons_succ]
          refine wpAnyH_ready (rs := [10]) (by kernel_rfl) (by simp) ?_
          refine AllReadyH.cons (o := { dst := some 6, op := Op.assign (Operand.tmp 14), type := 114, pos := "l6_aes.go:213", after := #[{ on := 5, ground := Ground.data }, { on := 9, ground := Ground.chain }, { on := 0, ground := Ground.phase }, { on := 1, ground := Ground.phase }, { on := 2, ground := Ground.phase }, { on := 3, ground := Ground.phase }, { on := 4, ground := Ground.phase }, { on := 5, ground := Ground.phase }, { on := 6, ground := Ground.phase }, { on := 7, ground := Ground.phase }, { on := 8, ground := Ground.phase }, { on := 9, ground := Ground.phase }], guard := none }) rfl (fun K' hK' => ?_) AllReadyH.nil
          go_simp
          refine hK'.out _ _ HS230a.bel (fun _ => ?_)
          clear hK' K'
          try simp only [Act.put, List.setIfInBounds_toArray, List.set_cons_zero, List.set_cons_succ]
          refine wpAnyH_done (by kernel_rfl) ?_ _
          exact ⟨_, gt, gk, cap, _, v, _, rfl, HS230a⟩
        refine AllReadyH.cons (o := { dst := some 5, op := Op.alloc 119, type := 0, pos := "l6_aes.go:213", after := #[], guard := none }) rfl (fun K' hK' => ?_) AllReadyH.nil
        go_simp
        have HB232 := HB218.alloc HB218.size (.cells #[.int .u8 0, .int .u8 0, .int .u8 0, .int .u8 0, .int .u8 0, .int .u8 0, .int .u8 0, .int .u8 0, .int .u8 0, .int .u8 0, .int .u8 0, .int .u8 0, .int .u8 0, .int .u8 0, .int .u8 0, .int .u8 0] 119)
        have aBx231 := HB218.size
        have Tx231 := RBlater Tx217 (below_box _ (.cells #[.int .u8 0, .int .u8 0, .int .u8 0, .int .u8 0, .int .u8 0, .int .u8 0, .int .u8 0, .int .u8 0, .int .u8 0, .int .u8 0, .int .u8 0, .int .u8 0, .int .u8 0, .int .u8 0, .int .u8 0, .int .u8 0] 119))
        have Kx231 := Kx217.later (below_box _ (.cells #[.int .u8 0, .int .u8 0, .int .u8 0, .int .u8 0, .int .u8 0, .int .u8 0, .int .u8 0, .int .u8 0, .int .u8 0, .int .u8 0, .int .u8 0, .int .u8 0, .int .u8 0, .int .u8 0, .int .u8 0, .int .u8 0] 119))
        have Zx231 := Zx217.later (below_box _ (.cells #[.int .u8 0, .int .u8 0, .int .u8 0, .int .u8 0, .int .u8 0, .int .u8 0, .int .u8 0, .int .u8 0, .int .u8 0, .int .u8 0, .int .u8 0, .int .u8 0, .int .u8 0, .int .u8 0, .int .u8 0, .int .u8 0] 119))
        have Rx231 : RB ((w177.alloc (.cells #[.pointer none, .slice none 0 0] 116)).alloc (.cells #[.int .u8 0, .int .u8 0, .int .u8 0, .int .u8 0, .int .u8 0, .int .u8 0, .int .u8 0, .int .u8 0, .int .u8 0, .int .u8 0, .int .u8 0, .int .u8 0, .int .u8 0, .int .u8 0, .int .u8 0, .int .u8 0] 119)) (w177.alloc (.cells #[.pointer none, .slice none 0 0] 116)).heap.size 16 119 (fun _ => 0) := by
          rw [zeroG]; exact RB.new (w177.alloc (.cells #[.pointer none, .slice none 0 0] 116)) 16 _ _
        have qx231 : (w177.alloc (.cells #[.pointer none, .slice none 0 0] 116)).heap.size = (w177.heap.size + 1) := by simp
        rw [qx231] at Rx231 aBx231
        refine hK'.out _ _ HB232 (fun _ => ?_)
        clear hK' K'
        try simp only [Act.put, List.setIfInBounds_toArray, List.set_cons_zero, List.set_cons_succ]
        refine wpAnyH_ready (rs := [3]) (by kernel_rfl) (by simp) ?_
        refine AllReadyH.cons (o := { dst := some 12, op := Op.call { callee := Callee.value (Operand.func 98), args := #[Operand.tmp 11], argTypes := #[9] }, type := 119, pos := "l6_aes.go:213", after := #[{ on := 2, ground := Ground.data }, { on := 1, ground := Ground.chain }], guard := none }) rfl (fun K' hK' => ?_) AllReadyH.nil
        go_simp
        refine (gridOf_ok t _ ht).mono ?_
        rintro e w233 ⟨rfl, HB234'⟩
        have HB234 := HB232.trans (HB234'.mono HB232.size)
        have Tw233 := RBlater Tx231 HB234'
        have Kw233 := Kx231.later HB234'
        have Rw233 := RBlater Rx231 HB234'
        have Zw233 := Zx231.later HB234'
        refine hK'.out _ _ HB234 (fun _ => ?_)
        clear hK' K'
        try simp only [Act.put, List.setIfInBounds_toArray, List.set_cons_zero, List.set_cons_succ]
        refine wpAnyH_ready (rs := [5]) (by kernel_rfl) (by simp) ?_
        refine AllReadyH.cons (o := { dst := some 14, op := Op.call { callee := Callee.value (Operand.func 99), args := #[Operand.tmp 13], argTypes := #[9] }, type := 114, pos := "l6_aes.go:213", after := #[{ on := 4, ground := Ground.data }, { on := 3, ground := Ground.chain }], guard := none }) rfl (fun K' hK' => ?_) AllReadyH.nil
        have kBw235 := Kw233.lt
        have aLw235 := Rw233.lt
        have wBw235 := HB234.size
        go_simp
        refine (gridsOf_ok u n _ hu hn).mono ?_
        rintro e w235 ⟨v, rfl, Lw235, HB236'⟩
        have HB236 := HB234.trans (HB236'.mono HB234.size)
        have new235 : ∀ g, v.ownBlock = some g → g ≠ (w177.heap.size + 1) := fun g hg => by have := (owns_own Lw235 g hg).1; omega
        have Tw235 := RBlater Tw233 HB236'
        have Kw235 := Kw233.later HB236'
        have Rw235 := RBlater Rw233 HB236'
        have Zw235 := Zw233.later HB236'
        refine hK'.out _ _ HB236 (fun _ => ?_)
        clear hK' K'
        try simp only [Act.put, List.setIfInBounds_toArray, List.set_cons_zero, List.set_cons_succ]
        obtain ⟨HS237, HS237r⟩ := HS.start (cap := cap) HB236 Zw235 Tw235 Kw235 Rw235 Lw235 wBw235 kBw235 new235 cBx217 aBx231
        refine wpAnyH_ready (rs := [8]) (by kernel_rfl) (by simp) ?_
        refine AllReadyH.cons (o := { dst := none, op := Op.store 116 (Operand.tmp 4) (Operand.tmp 10), type := 0, pos := "l6_aes.go:213", after := #[{ on := 6, ground := Ground.data }, { on := 1, ground := Ground.data }, { on := 5, ground := Ground.chain }, { on := 0, ground := Ground.phase }, { on := 1, ground := Ground.phase }, { on := 2, ground := Ground.textOnly Departure.lateStores }, { on := 3, ground := Ground.textOnly Departure.lateStoresUnsure }, { on := 4, ground := Ground.textOnly Departure.lateStores }, { on := 5, ground := Ground.textOnly Departure.lateStoresUnsure }, { on := 6, ground := Ground.phase }, { on := 7, ground := Ground.phase }], guard := none }) rfl (fun K' hK' => ?_) AllReadyH.nil
        rw [if_pos (by rfl)]
        refine wp_store_row 116 _ _ rfl _ #[.pointer (some ⟨gt, 0, none⟩), .slice (some ⟨gk, 0, none⟩) 11 cap] rfl rfl 116 _ Zw235 sizeC rfl (oneC _ _ _ _) ?_
        refine hK'.out _ _ HS237.bel (fun _ => ?_)
        clear hK' K'
        try simp only [Act.put, List.setIfInBounds_toArray, List.set_cons_zero, List.set_cons_succ]
        refine wpAnyH_ready (rs := [9]) (by kernel_rfl) (by simp) ?_
        refine AllReadyH.cons (o := { dst := none, op := Op.store 119 (Operand.tmp 5) (Operand.tmp 12), type := 0, pos := "l6_aes.go:213", after := #[{ on := 7, ground := Ground.data }, { on := 3, ground := Ground.data }, { on := 8, ground := Ground.chain }, { on := 0, ground := Ground.phase }, { on := 1, ground := Ground.phase }, { on := 2, ground := Ground.phase }, { on := 3, ground := Ground.phase }, { on := 4, ground := Ground.textOnly Departure.lateStores }, { on := 5, ground := Ground.textOnly Departure.lateStoresUnsure }, { on := 6, ground := Ground.phase }, { on := 7, ground := Ground.phase }, { on := 8, ground := Ground.phase }], guard := none }) rfl (fun K' hK' => ?_) AllReadyH.nil
        rw [if_pos (by rfl)]
        refine wp_store_row 119 _ _ rfl _ (rC 16 (bn t)) rfl rfl 119 _ HS237r sizeG rfl (rC_one _ _) ?_
        have HS237a := HS237.setA (bn t)
        refine hK'.out _ _ HS237a.bel (fun _ => ?_)
        clear hK' K'
        try simp only [Act.put, List.setIfInBounds_toArray, List.set_cons_zero, List.set_cons_succ]
        refine wpAnyH_ready (rs := [10]) (by kernel_rfl) (by simp) ?_
        refine AllReadyH.cons (o := { dst := some 6, op := Op.assign (Operand.tmp 14), type := 114, pos := "l6_aes.go:213", after := #[{ on := 5, ground := Ground.data }, { on := 9, ground := Ground.chain }, { on := 0, ground := Ground.phase }, { on := 1, ground := Ground.phase }, { on := 2, ground := Ground.phase }, { on := 3, ground := Ground.phase }, { on := 4, ground := Ground.phase }, { on := 5, ground := Ground.phase }, { on := 6, ground := Ground.phase }, { on := 7, ground := Ground.phase }, { on := 8, ground := Ground.phase }, { on := 9, ground := Ground.phase }], guard := none }) rfl (fun K' hK' => ?_) AllReadyH.nil
        go_simp
        refine hK'.out _ _ HS237a.bel (fun _ => ?_)
        clear hK' K'
        try simp only [Act.put, List.setIfInBounds_toArray, List.set_cons_zero, List.set_cons_succ]
        refine wpAnyH_done (by kernel_rfl) ?_ _
        exact ⟨_, gt, gk, cap, _, v, _, rfl, HS237a⟩
      refine AllReadyH.cons (o := { dst := some 5, op := Op.alloc 119, type := 0, pos := "l6_aes.go:213", after := #[], guard := none }) rfl (fun K' hK' => ?_) AllReadyH.nil
      go_simp
      have HB239 := HB178.alloc HB178.size (.cells #[.int .u8 0, .int .u8 0, .int .u8 0, .int .u8 0, .int .u8 0, .int .u8 0, .int .u8 0, .int .u8 0, .int .u8 0, .int .u8 0, .int .u8 0, .int .u8 0, .int .u8 0, .int .u8 0, .int .u8 0, .int .u8 0] 119)
      have aBx238 := HB178.size
      have Tx238 := RBlater Tw177 (below_box _ (.cells #[.int .u8 0, .int .u8 0, .int .u8 0, .int .u8 0, .int .u8 0, .int .u8 0, .int .u8 0, .int .u8 0, .int .u8 0, .int .u8 0, .int .u8 0, .int .u8 0, .int .u8 0, .int .u8 0, .int .u8 0, .int .u8 0] 119))
      have Kx238 := Kw177.later (below_box _ (.cells #[.int .u8 0, .int .u8 0, .int .u8 0, .int .u8 0, .int .u8 0, .int .u8 0, .int .u8 0, .int .u8 0, .int .u8 0, .int .u8 0, .int .u8 0, .int .u8 0, .int .u8 0, .int .u8 0, .int .u8 0, .int .u8 0] 119))
      have Rx238 : RB (w177.alloc (.cells #[.int .u8 0, .int .u8 0, .int .u8 0, .int .u8 0, .int .u8 0, .int .u8 0, .int .u8 0, .int .u8 0, .int .u8 0, .int .u8 0, .int .u8 0, .int .u8 0, .int .u8 0, .int .u8 0, .int .u8 0, .int .u8 0] 119)) w177.heap.size 16 119 (fun _ => 0) := by
        rw [zeroG]; exact RB.new w177 16 _ _
      refine hK'.out _ _ HB239 (fun _ => ?_)
      clear hK' K'
      try simp only [Act.put, List.setIfInBounds_toArray, List.set_cons_zero, List.set_cons_succ]
      refine wpAnyH_ready (rs := [3, 6]) (by kernel_rfl) (by simp) ?_
      refine AllReadyH.cons (o := { dst := some 12, op := Op.call { callee := Callee.value (Operand.func 98), args := #[Operand.tmp 11], argTypes := #[9] }, type := 119, pos := "l6_aes.go:213", after := #[{ on := 2, ground := Ground.data }, { on := 1, ground := Ground.chain }], guard := none }) rfl (fun K' hK' => ?_) ?_
      · go_simp
        refine (gridOf_ok t _ ht).mono ?_
        rintro e w240 ⟨rfl, HB241'⟩
        have HB241 := HB239.trans (HB241'.mono HB239.size)
        have Tw240 := RBlater Tx238 HB241'
        have Kw240 := Kx238.later HB241'
        have Rw240 := RBlater Rx238 HB241'
        refine hK'.out _ _ HB241 (fun _ => ?_)
        clear hK' K'
        try simp only [Act.put, List.setIfInBounds_toArray, List.set_cons_zero, List.set_cons_succ]
        refine wpAnyH_ready (rs := [5, 6]) (by kernel_rfl) (by simp) ?_
        refine AllReadyH.cons (o := { dst := some 14, op := Op.call { callee := Callee.value (Operand.func 99), args := #[Operand.tmp 13], argTypes := #[9] }, type := 114, pos := "l6_aes.go:213", after := #[{ on := 4, ground := Ground.data }, { on := 3, ground := Ground.chain }], guard := none }) rfl (fun K' hK' => ?_) ?_
        · have kBw242 := Kw240.lt
          have aLw242 := Rw240.lt
          have wBw242 := HB241.size
          go_simp
          refine (gridsOf_ok u n _ hu hn).mono ?_
          rintro e w242 ⟨v, rfl, Lw242, HB243'⟩
          have HB243 := HB241.trans (HB243'.mono HB241.size)
          have new242 : ∀ g, v.ownBlock = some g → g ≠ w177.heap.size := fun g hg => by have := (owns_own Lw242 g hg).1; omega
          have Tw242 := RBlater Tw240 HB243'
          have Kw242 := Kw240.later HB243'
          have Rw242 := RBlater Rw240 HB243'
          refine hK'.out _ _ HB243 (fun _ => ?_)
          clear hK' K'
          try simp only [Act.put, List.setIfInBounds_toArray, List.set_cons_zero, List.set_cons_succ]
          refine wpAnyH_ready (rs := [6]) (by kernel_rfl) (by simp) ?_
          refine AllReadyH.cons (o := { dst := some 4, op := Op.alloc 116, type := 0, pos := "l6_aes.go:213", after := #[], guard := none }) rfl (fun K' hK' => ?_) AllReadyH.nil
          go_simp
          have HB245 := HB243.alloc HB243.size (.cells #[.pointer none, .slice none 0 0] 116)
          have cBx244 := HB243.size
          have Tx244 := RBlater Tw242 (below_box _ (.cells #[.pointer none, .slice none 0 0] 116))
          have Kx244 := Kw242.later (below_box _ (.cells #[.pointer none, .slice none 0 0] 116))
          have Rx244 := RBlater Rw242 (below_box _ (.cells #[.pointer none, .slice none 0 0] 116))
          have Lx244 := owns_below Lw242 (below_box _ (.cells #[.pointer none, .slice none 0 0] 116))
          have Zx244 := CZ.new w242
          refine hK'.out _ _ HB245 (fun _ => ?_)
          clear hK' K'
          try simp only [Act.put, List.setIfInBounds_toArray, List.set_cons_zero, List.set_cons_succ]
          obtain ⟨HS246, HS246r⟩ := HS.start (cap := cap) HB245 Zx244 Tx244 Kx244 Rx244 Lx244 wBw242 kBw242 new242 cBx244 aBx238
          refine wpAnyH_ready (rs := [8]) (by kernel_rfl) (by simp) ?_
          refine AllReadyH.cons (o := { dst := none, op := Op.store 116 (Operand.tmp 4) (Operand.tmp 10), type := 0, pos := "l6_aes.go:213", after := #[{ on := 6, ground := Ground.data }, { on := 1, ground := Ground.data }, { on := 5, ground := Ground.chain }, { on := 0, ground := Ground.phase }, { on := 1, ground := Ground.phase }, { on := 2, ground := Ground.textOnly Departure.lateStores }, { on := 3, ground := Ground.textOnly Departure.lateStoresUnsure }, { on := 4, ground := Ground.textOnly Departure.lateStores }, { on := 5, ground := Ground.textOnly Departure.lateStoresUnsure }, { on := 6, ground := Ground.phase }, { on := 7, ground := Ground.phase }], guard := none }) rfl (fun K' hK' => ?_) AllReadyH.nil
          rw [if_pos (by rfl)]
          refine wp_store_row 116 _ _ rfl _ #[.pointer (some ⟨gt, 0, none⟩), .slice (some ⟨gk, 0, none⟩) 11 cap] rfl rfl 116 _ Zx244 sizeC rfl (oneC _ _ _ _) ?_
          refine hK'.out _ _ HS246.bel (fun _ => ?_)
          clear hK' K'
          try simp only [Act.put, List.setIfInBounds_toArray, List.set_cons_zero, List.set_cons_succ]
          refine wpAnyH_ready (rs := [9]) (by kernel_rfl) (by simp) ?_
          refine AllReadyH.cons (o := { dst := none, op := Op.store 119 (Operand.tmp 5) (Operand.tmp 12), type := 0, pos := "l6_aes.go:213", after := #[{ on := 7, ground := Ground.data }, { on := 3, ground := Ground.data }, { on := 8, ground := Ground.chain }, { on := 0, ground := Ground.phase }, { on := 1, ground := Ground.phase }, { on := 2, ground := Ground.phase }, { on := 3, ground := Ground.phase }, { on := 4, ground := Ground.textOnly Departure.lateStores }, { on := 5, ground := Ground.textOnly Departure.lateStoresUnsure }, { on := 6, ground := Ground.phase }, { on := 7, ground := Ground.phase }, { on := 8, ground := Ground.phase }], guard := none }) rfl (fun K' hK' => ?_) AllReadyH.nil
          rw [if_pos (by rfl)]
          refine wp_store_row 119 _ _ rfl _ (rC 16 (bn t)) rfl rfl 119 _ HS246r sizeG rfl (rC_one _ _) ?_
          have HS246a := HS246.setA (bn t)
          refine hK'.out _ _ HS246a.bel (fun _ => ?_)
          clear hK' K'
          try simp only [Act.put, List.setIfInBounds_toArray, List.set_cons_zero, List.set_cons_succ]
          refine wpAnyH_ready (rs := [10]) (by kernel_rfl) (by simp) ?_
          refine AllReadyH.cons (o := { dst := some 6, op := Op.assign (Operand.tmp 14), type := 114, pos := "l6_aes.go:213", after := #[{ on := 5, ground := Ground.data }, { on := 9, ground := Ground.chain }, { on := 0, ground := Ground.phase }, { on := 1, ground := Ground.phase }, { on := 2, ground := Ground.phase }, { on := 3, ground := Ground.phase }, { on := 4, ground := Ground.phase }, { on := 5, ground := Ground.phase }, { on := 6, ground := Ground.phase }, { on := 7, ground := Ground.phase }, { on := 8, ground := Ground.phase }, { on := 9, ground := Ground.phase }], guard := none }) rfl (fun K' hK' => ?_) AllReadyH.nil
          go_simp
          refine hK'.out _ _ HS246a.bel (fun _ => ?_)
          clear hK' K'
          try simp only [Act.put, List.setIfInBounds_toArray, List.set_cons_zero, List.set_cons_succ]
          refine wpAnyH_done (by kernel_rfl) ?_ _
          exact ⟨_, gt, gk, cap, _, v, _, rfl, HS246a⟩
        refine AllReadyH.cons (o := { dst := some 4, op := Op.alloc 116, type := 0, pos := "l6_aes.go:213", after := #[], guard := none }) rfl (fun K' hK' => ?_) AllReadyH.nil
        go_simp
        have HB248 := HB241.alloc HB241.size (.cells #[.pointer none, .slice none 0 0] 116)
        have cBx247 := HB241.size
        have Tx247 := RBlater Tw240 (below_box _ (.cells #[.pointer none, .slice none 0 0] 116))
        have Kx247 := Kw240.later (below_box _ (.cells #[.pointer none, .slice none 0 0] 116))
        have Rx247 := RBlater Rw240 (below_box _ (.cells #[.pointer none, .slice none 0 0] 116))
        have Zx247 := CZ.new w240
        refine hK'.out _ _ HB248 (fun _ => ?_)
        clear hK' K'
        try simp only [Act.put, List.setIfInBounds_toArray, List.set_cons_zero, List.set_cons_succ]
        refine wpAnyH_ready (rs := [5]) (by kernel_rfl) (by simp) ?_
        refine AllReadyH.cons (o := { dst := some 14, op := Op.call { callee := Callee.value (Operand.func 99), args := #[Operand.tmp 13], argTypes := #[9] }, type := 114, pos := "l6_aes.go:213", after := #[{ on := 4, ground := Ground.data }, { on := 3, ground := Ground.chain }], guard := none }) rfl (fun K' hK' => ?_) AllReadyH.nil
        have kBw249 := Kx247.lt
        have aLw249 := Rx247.lt
        have wBw249 := HB248.size
        go_simp
        refine (gridsOf_ok u n _ hu hn).mono ?_
        rintro e w249 ⟨v, rfl, Lw249, HB250'⟩
        have HB250 := HB248.trans (HB250'.mono HB248.size)
        have new249 : ∀ g, v.ownBlock = some g → g ≠ w177.heap.size := fun g hg => by have := (owns_own Lw249 g hg).1; omega
        have Tw249 := RBlater Tx247 HB250'
        have Kw249 := Kx247.later HB250'
        have Rw249 := RBlater Rx247 HB250'
        have Zw249 := Zx247.later HB250'
        refine hK'.out _ _ HB250 (fun _ => ?_)
        clear hK' K'
        try simp only [Act.put, List.setIfInBounds_toArray, List.set_cons_zero, List.set_cons_succ]
        obtain ⟨HS251, HS251r⟩ := HS.start (cap := cap) HB250 Zw249 Tw249 Kw249 Rw249 Lw249 wBw249 kBw249 new249 cBx247 aBx238
        refine wpAnyH_ready (rs := [8]) (by kernel_rfl) (by simp) ?_
        refine AllReadyH.cons (o := { dst := none, op := Op.store 116 (Operand.tmp 4) (Operand.tmp 10), type := 0, pos := "l6_aes.go:213", after := #[{ on := 6, ground := Ground.data }, { on := 1, ground := Ground.data }, { on := 5, ground := Ground.chain }, { on := 0, ground := Ground.phase }, { on := 1, ground := Ground.phase }, { on := 2, ground := Ground.textOnly Departure.lateStores }, { on := 3, ground := Ground.textOnly Departure.lateStoresUnsure }, { on := 4, ground := Ground.textOnly Departure.lateStores }, { on := 5, ground := Ground.textOnly Departure.lateStoresUnsure }, { on := 6, ground := Ground.phase }, { on := 7, ground := Ground.phase }], guard := none }) rfl (fun K' hK' => ?_) AllReadyH.nil
        rw [if_pos (by rfl)]
        refine wp_store_row 116 _ _ rfl _ #[.pointer (some ⟨gt, 0, none⟩), .slice (some ⟨gk, 0, none⟩) 11 cap] rfl rfl 116 _ Zw249 sizeC rfl (oneC _ _ _ _) ?_
        refine hK'.out _ _ HS251.bel (fun _ => ?_)
        clear hK' K'
        try simp only [Act.put, List.setIfInBounds_toArray, List.set_cons_zero, List.set_cons_succ]
        refine wpAnyH_ready (rs := [9]) (by kernel_rfl) (by simp) ?_
        refine AllReadyH.cons (o := { dst := none, op := Op.store 119 (Operand.tmp 5) (Operand.tmp 12), type := 0, pos := "l6_aes.go:213", after := #[{ on := 7, ground := Ground.data }, { on := 3, ground := Ground.data }, { on := 8, ground := Ground.chain }, { on := 0, ground := Ground.phase }, { on := 1, ground := Ground.phase }, { on := 2, ground := Ground.phase }, { on := 3, ground := Ground.phase }, { on := 4, ground := Ground.textOnly Departure.lateStores }, { on := 5, ground := Ground.textOnly Departure.lateStoresUnsure }, { on := 6, ground := Ground.phase }, { on := 7, ground := Ground.phase }, { on := 8, ground := Ground.phase }], guard := none }) rfl (fun K' hK' => ?_) AllReadyH.nil
        rw [if_pos (by rfl)]
        refine wp_store_row 119 _ _ rfl _ (rC 16 (bn t)) rfl rfl 119 _ HS251r sizeG rfl (rC_one _ _) ?_
        have HS251a := HS251.setA (bn t)
        refine hK'.out _ _ HS251a.bel (fun _ => ?_)
        clear hK' K'
        try simp only [Act.put, List.setIfInBounds_toArray, List.set_cons_zero, List.set_cons_succ]
        refine wpAnyH_ready (rs := [10]) (by kernel_rfl) (by simp) ?_
        refine AllReadyH.cons (o := { dst := some 6, op := Op.assign (Operand.tmp 14), type := 114, pos := "l6_aes.go:213", after := #[{ on := 5, ground := Ground.data }, { on := 9, ground := Ground.chain }, { on := 0, ground := Ground.phase }, { on := 1, ground := Ground.phase }, { on := 2, ground := Ground.phase }, { on := 3, ground := Ground.phase }, { on := 4, ground := Ground.phase }, { on := 5, ground := Ground.phase }, { on := 6, ground := Ground.phase }, { on := 7, ground := Ground.phase }, { on := 8, ground := Ground.phase }, { on := 9, ground := Ground.phase }], guard := none }) rfl (fun K' hK' => ?_) AllReadyH.nil
        go_simp
        refine hK'.out _ _ HS251a.bel (fun _ => ?_)
        clear hK' K'
        try simp only [Act.put, List.setIfInBounds_toArray, List.set_cons_zero, List.set_cons_succ]
        refine wpAnyH_done (by kernel_rfl) ?_ _
        exact ⟨_, gt, gk, cap, _, v, _, rfl, HS251a⟩
      refine AllReadyH.cons (o := { dst := some 4, op := Op.alloc 116, type := 0, pos := "l6_aes.go:213", after := #[], guard := none }) rfl (fun K' hK' => ?_) AllReadyH.nil
      go_simp
      have HB253 := HB239.alloc HB239.size (.cells #[.pointer none, .slice none 0 0] 116)
      have cBx252 := HB239.size
      have Tx252 := RBlater Tx238 (below_box _ (.cells #[.pointer none, .slice none 0 0] 116))
      have Kx252 := Kx238.later (below_box _ (.cells #[.pointer none, .slice none 0 0] 116))
      have Rx252 := RBlater Rx238 (below_box _ (.cells #[.pointer none, .slice none 0 0] 116))
      have qx252 : (w177.alloc (.cells #[.int .u8 0, .int .u8 0, .int .u8 0, .int .u8 0, .int .u8 0, .int .u8 0, .int .u8 0, .int .u8 0, .int .u8 0, .int .u8 0, .int .u8 0, .int .u8 0, .int .u8 0, .int .u8 0, .int .u8 0, .int .u8 0] 119)).heap.size = (w177.heap.size + 1) := by simp
      have Zx252 : CZ ((w177.alloc (.cells #[.int .u8 0, .int .u8 0, .int .u8 0, .int .u8 0, .int .u8 0, .int .u8 0, .int .u8 0, .int .u8 0, .int .u8 0, .int .u8 0, .int .u8 0, .int .u8 0, .int .u8 0, .int .u8 0, .int .u8 0, .int .u8 0] 119)).alloc (.cells #[.pointer none, .slice none 0 0] 116)) (w177.heap.size + 1) := by have := CZ.new (w177.alloc (.cells #[.int .u8 0, .int .u8 0, .int .u8 0, .int .u8 0, .int .u8 0, .int .u8 0, .int .u8 0, .int .u8 0, .int .u8 0, .int .u8 0, .int .u8 0, .int .u8 0, .int .u8 0, .int .u8 0, .int .u8 0, .int .u8 0] 119)); rw [qx252] at this; exact this
      rw [qx252] at cBx252
      refine hK'.out _ _ HB253 (fun _ => ?_)
      clear hK' K'
      try simp only [Act.put, List.setIfInBounds_toArray, List.set_cons_zero, List.set_cons_succ]
      refine wpAnyH_ready (rs := [3]) (by kernel_rfl) (by simp) ?_
      refine AllReadyH.cons (o := { dst := some 12, op := Op.call { callee := Callee.value (Operand.func 98), args := #[Operand.tmp 11], argTypes := #[9] }, type := 119, pos := "l6_aes.go:213", after := #[{ on := 2, ground := Ground.data }, { on := 1, ground := Ground.chain }], guard := none }) rfl (fun K' hK' => ?_) AllReadyH.nil
      go_simp
      refine (gridOf_ok t _ ht).mono ?_
      rintro e w254 ⟨rfl, HB255'⟩
      have HB255 := HB253.trans (HB255'.mono HB253.size)
      have Tw254 := RBlater Tx252 HB255'
      have Kw254 := Kx252.later HB255'
      have Rw254 := RBlater Rx252 HB255'
      have Zw254 := Zx252.later HB255'
      refine hK'.out _ _ HB255 (fun _ => ?_)
      clear hK' K'
      try simp only [Act.put, List.setIfInBounds_toArray, List.set_cons_zero, List.set_cons_succ]
      refine wpAnyH_ready (rs := [5]) (by kernel_rfl) (by simp) ?_
      refine AllReadyH.cons (o := { dst := some 14, op := Op.call { callee := Callee.value (Operand.func 99), args := #[Operand.tmp 13], argTypes := #[9] }, type := 114, pos := "l6_aes.go:213", after := #[{ on := 4, ground := Ground.data }, { on := 3, ground := Ground.chain }], guard := none }) rfl (fun K' hK' => ?_) AllReadyH.nil
      have kBw256 := Kw254.lt
      have aLw256 := Rw254.lt
      have wBw256 := HB255.size
      go_simp
      refine (gridsOf_ok u n _ hu hn).mono ?_
      rintro e w256 ⟨v, rfl, Lw256, HB257'⟩
      have HB257 := HB255.trans (HB257'.mono HB255.size)
      have new256 : ∀ g, v.ownBlock = some g → g ≠ w177.heap.size := fun g hg => by have := (owns_own Lw256 g hg).1; omega
      have Tw256 := RBlater Tw254 HB257'
      have Kw256 := Kw254.later HB257'
      have Rw256 := RBlater Rw254 HB257'
      have Zw256 := Zw254.later HB257'
      refine hK'.out _ _ HB257 (fun _ => ?_)
      clear hK' K'
      try simp only [Act.put, List.setIfInBounds_toArray, List.set_cons_zero, List.set_cons_succ]
      obtain ⟨HS258, HS258r⟩ := HS.start (cap := cap) HB257 Zw256 Tw256 Kw256 Rw256 Lw256 wBw256 kBw256 new256 cBx252 aBx238
      refine wpAnyH_ready (rs := [8]) (by kernel_rfl) (by simp) ?_
      refine AllReadyH.cons (o := { dst := none, op := Op.store 116 (Operand.tmp 4) (Operand.tmp 10), type := 0, pos := "l6_aes.go:213", after := #[{ on := 6, ground := Ground.data }, { on := 1, ground := Ground.data }, { on := 5, ground := Ground.chain }, { on := 0, ground := Ground.phase }, { on := 1, ground := Ground.phase }, { on := 2, ground := Ground.textOnly Departure.lateStores }, { on := 3, ground := Ground.textOnly Departure.lateStoresUnsure }, { on := 4, ground := Ground.textOnly Departure.lateStores }, { on := 5, ground := Ground.textOnly Departure.lateStoresUnsure }, { on := 6, ground := Ground.phase }, { on := 7, ground := Ground.phase }], guard := none }) rfl (fun K' hK' => ?_) AllReadyH.nil
      rw [if_pos (by rfl)]
      refine wp_store_row 116 _ _ rfl _ #[.pointer (some ⟨gt, 0, none⟩), .slice (some ⟨gk, 0, none⟩) 11 cap] rfl rfl 116 _ Zw256 sizeC rfl (oneC _ _ _ _) ?_
      refine hK'.out _ _ HS258.bel (fun _ => ?_)
      clear hK' K'
      try simp only [Act.put, List.setIfInBounds_toArray, List.set_cons_zero, List.set_cons_succ]
      refine wpAnyH_ready (rs := [9]) (by kernel_rfl) (by simp) ?_
      refine AllReadyH.cons (o := { dst := none, op := Op.store 119 (Operand.tmp 5) (Operand.tmp 12), type := 0, pos := "l6_aes.go:213", after := #[{ on := 7, ground := Ground.data }, { on := 3, ground := Ground.data }, { on := 8, ground := Ground.chain }, { on := 0, ground := Ground.phase }, { on := 1, ground := Ground.phase }, { on := 2, ground := Ground.phase }, { on := 3, ground := Ground.phase }, { on := 4, ground := Ground.textOnly Departure.lateStores }, { on := 5, ground := Ground.textOnly Departure.lateStoresUnsure }, { on := 6, ground := Ground.phase }, { on := 7, ground := Ground.phase }, { on := 8, ground := Ground.phase }], guard := none }) rfl (fun K' hK' => ?_) AllReadyH.nil
      rw [if_pos (by rfl)]
      refine wp_store_row 119 _ _ rfl _ (rC 16 (bn t)) rfl rfl 119 _ HS258r sizeG rfl (rC_one _ _) ?_
      have HS258a := HS258.setA (bn t)
      refine hK'.out _ _ HS258a.bel (fun _ => ?_)
      clear hK' K'
      try simp only [Act.put, List.setIfInBounds_toArray, List.set_cons_zero, List.set_cons_succ]
      refine wpAnyH_ready (rs := [10]) (by kernel_rfl) (by simp) ?_
      refine AllReadyH.cons (o := { dst := some 6, op := Op.assign (Operand.tmp 14), type := 114, pos := "l6_aes.go:213", after := #[{ on := 5, ground := Ground.data }, { on := 9, ground := Ground.chain }, { on := 0, ground := Ground.phase }, { on := 1, ground := Ground.phase }, { on := 2, ground := Ground.phase }, { on := 3, ground := Ground.phase }, { on := 4, ground := Ground.phase }, { on := 5, ground := Ground.phase }, { on := 6, ground := Ground.phase }, { on := 7, ground := Ground.phase }, { on := 8, ground := Ground.phase }, { on := 9, ground := Ground.phase }], guard := none }) rfl (fun K' hK' => ?_) AllReadyH.nil
      go_simp
      refine hK'.out _ _ HS258a.bel (fun _ => ?_)
      clear hK' K'
      try simp only [Act.put, List.setIfInBounds_toArray, List.set_cons_zero, List.set_cons_succ]
      refine wpAnyH_done (by kernel_rfl) ?_ _
      exact ⟨_, gt, gk, cap, _, v, _, rfl, HS258a⟩
    refine AllReadyH.cons (o := { dst := some 4, op := Op.alloc 116, type := 0, pos := "l6_aes.go:213", after := #[], guard := none }) rfl (fun K' hK' => ?_) ?_
    · go_simp
      have HB260 := H0.alloc H0.size (.cells #[.pointer none, .slice none 0 0] 116)
      have cBx259 := H0.size
      have Zx259 := CZ.new w.drew
      refine hK'.out _ _ HB260 (fun _ => ?_)
      clear hK' K'
      try simp only [Act.put, List.setIfInBounds_toArray, List.set_cons_zero, List.set_cons_succ]
      refine wpAnyH_ready (rs := [1, 7]) (by kernel_rfl) (by simp) ?_
      refine AllReadyH.cons (o := { dst := some 10, op := Op.call { callee := Callee.value (Operand.func 97), args := #[Operand.tmp 9], argTypes := #[9] }, type := 116, pos := "l6_aes.go:213", after := #[{ on := 0, ground := Ground.data }], guard := none }) rfl (fun K' hK' => ?_) ?_
      · go_simp
        refine (cipherOf_ok s _ hs).mono ?_
        rintro e w261 ⟨gt, gk, cap, rfl, Tw261, Kw261, HB262'⟩
        have HB262 := HB260.trans (HB262'.mono HB260.size)
        have Zw261 := Zx259.later HB262'
        refine hK'.out _ _ HB262 (fun _ => ?_)
        clear hK' K'
        try simp only [Act.put, List.setIfInBounds_toArray, List.set_cons_zero, List.set_cons_succ]
        refine wpAnyH_ready (rs := [3, 7]) (by kernel_rfl) (by simp) ?_
        refine AllReadyH.cons (o := { dst := some 12, op := Op.call { callee := Callee.value (Operand.func 98), args := #[Operand.tmp 11], argTypes := #[9] }, type := 119, pos := "l6_aes.go:213", after := #[{ on := 2, ground := Ground.data }, { on := 1, ground := Ground.chain }], guard := none }) rfl (fun K' hK' => ?_) ?_
        · go_simp
          refine (gridOf_ok t _ ht).mono ?_
          rintro e w263 ⟨rfl, HB264'⟩
          have HB264 := HB262.trans (HB264'.mono HB262.size)
          have Tw263 := RBlater Tw261 HB264'
          have Kw263 := Kw261.later HB264'
          have Zw263 := Zw261.later HB264'
          refine hK'.out _ _ HB264 (fun _ => ?_)
          clear hK' K'
          try simp only [Act.put, List.setIfInBounds_toArray, List.set_cons_zero, List.set_cons_succ]
          refine wpAnyH_ready (rs := [5, 7]) (by kernel_rfl) (by simp) ?_
          refine AllReadyH.cons (o := { dst := some 14, op := Op.call { callee := Callee.value (Operand.func 99), args := #[Operand.tmp 13], argTypes := #[9] }, type := 114, pos := "l6_aes.go:213", after := #[{ on := 4, ground := Ground.data }, { on := 3, ground := Ground.chain }], guard := none }) rfl (fun K' hK' => ?_) ?_
          · have kBw265 := Kw263.lt
            have wBw265 := HB264.size
            go_simp
            refine (gridsOf_ok u n _ hu hn).mono ?_
            rintro e w265 ⟨v, rfl, Lw265, HB266'⟩
            have HB266 := HB264.trans (HB266'.mono HB264.size)
            have Tw265 := RBlater Tw263 HB266'
            have Kw265 := Kw263.later HB266'
            have Zw265 := Zw263.later HB266'
            refine hK'.out _ _ HB266 (fun _ => ?_)
            clear hK' K'
            try simp only [Act.put, List.setIfInBounds_toArray, List.set_cons_zero, List.set_cons_succ]
            refine wpAnyH_ready (rs := [7]) (by kernel_rfl) (by simp) ?_
            refine AllReadyH.cons (o := { dst := some 5, op := Op.alloc 119, type := 0, pos := "l6_aes.go:213", after := #[], guard := none }) rfl (fun K' hK' => ?_) AllReadyH.nil
            go_simp
            have HB268 := HB266.alloc HB266.size (.cells #[.int .u8 0, .int .u8 0, .int .u8 0, .int .u8 0, .int .u8 0, .int .u8 0, .int .u8 0, .int .u8 0, .int .u8 0, .int .u8 0, .int .u8 0, .int .u8 0, .int .u8 0, .int .u8 0, .int .u8 0, .int .u8 0] 119)
            have aBx267 := HB266.size
            have nex267 : ∀ g, v.ownBlock = some g → g ≠ w265.heap.size := fun g hg => by have := (owns_own Lw265 g hg).2; omega
            have Tx267 := RBlater Tw265 (below_box _ (.cells #[.int .u8 0, .int .u8 0, .int .u8 0, .int .u8 0, .int .u8 0, .int .u8 0, .int .u8 0, .int .u8 0, .int .u8 0, .int .u8 0, .int .u8 0, .int .u8 0, .int .u8 0, .int .u8 0, .int .u8 0, .int .u8 0] 119))
            have Kx267 := Kw265.later (below_box _ (.cells #[.int .u8 0, .int .u8 0, .int .u8 0, .int .u8 0, .int .u8 0, .int .u8 0, .int .u8 0, .int .u8 0, .int .u8 0, .int .u8 0, .int .u8 0, .int .u8 0, .int .u8 0, .int .u8 0, .int .u8 0, .int .u8 0] 119))
            have Zx267 := Zw265.later (below_box _ (.cells #[.int .u8 0, .int .u8 0, .int .u8 0, .int .u8 0, .int .u8 0, .int .u8 0, .int .u8 0, .int .u8 0, .int .u8 0, .int .u8 0, .int .u8 0, .int .u8 0, .int .u8 0, .int .u8 0, .int .u8 0, .int .u8 0] 119))
            have Lx267 := owns_below Lw265 (below_box _ (.cells #[.int .u8 0, .int .u8 0, .int .u8 0, .int .u8 0, .int .u8 0, .int .u8 0, .int .u8 0, .int .u8 0, .int .u8 0, .int .u8 0, .int .u8 0, .int .u8 0, .int .u8 0, .int .u8 0, .int .u8 0, .int .u8 0] 119))
            have Rx267 : RB (w265.alloc (.cells #[.int .u8 0, .int .u8 0, .int .u8 0, .int .u8 0, .int .u8 0, .int .u8 0, .int .u8 0, .int .u8 0, .int .u8 0, .int .u8 0, .int .u8 0, .int .u8 0, .int .u8 0, .int .u8 0, .int .u8 0, .int .u8 0] 119)) w265.heap.size 16 119 (fun _ => 0) := by
              rw [zeroG]; exact RB.new w265 16 _ _
            refine hK'.out _ _ HB268 (fun _ => ?_)
            clear hK' K'
            try simp only [Act.put, List.setIfInBounds_toArray, List.set_cons_zero, List.set_cons_succ]
            obtain ⟨HS269, HS269r⟩ := HS.start (cap := cap) HB268 Zx267 Tx267 Kx267 Rx267 Lx267 wBw265 kBw265 nex267 cBx259 aBx267
            refine wpAnyH_ready (rs := [8]) (by kernel_rfl) (by simp) ?_
            refine AllReadyH.cons (o := { dst := none, op := Op.store 116 (Operand.tmp 4) (Operand.tmp 10), type := 0, pos := "l6_aes.go:213", after := #[{ on := 6, ground := Ground.data }, { on := 1, ground := Ground.data }, { on := 5, ground := Ground.chain }, { on := 0, ground := Ground.phase }, { on := 1, ground := Ground.phase }, { on := 2, ground := Ground.textOnly Departure.lateStores }, { on := 3, ground := Ground.textOnly Departure.lateStoresUnsure }, { on := 4, ground := Ground.textOnly Departure.lateStores }, { on := 5, ground := Ground.textOnly Departure.lateStoresUnsure }, { on := 6, ground := Ground.phase }, { on := 7, ground := Ground.phase }], guard := none }) rfl (fun K' hK' => ?_) AllReadyH.nil
            rw [if_pos (by rfl)]
            refine wp_store_row 116 _ _ rfl _ #[.pointer (some ⟨gt, 0, none⟩), .slice (some ⟨gk, 0, none⟩) 11 cap] rfl rfl 116 _ Zx267 sizeC rfl (oneC _ _ _ _) ?_
            refine hK'.out _ _ HS269.bel (fun _ => ?_)
            clear hK' K'
            try simp only [Act.put, List.setIfInBounds_toArray, List.set_cons_zero, List.set_cons_succ]
            refine wpAnyH_ready (rs := [9]) (by kernel_rfl) (by simp) ?_
            refine AllReadyH.cons (o := { dst := none, op := Op.store 119 (Operand.tmp 5) (Operand.tmp 12), type := 0, pos := "l6_aes.go:213", after := #[{ on := 7, ground := Ground.data }, { on := 3, ground := Ground.data }, { on := 8, ground := Ground.chain }, { on := 0, ground := Ground.phase }, { on := 1, ground := Ground.phase }, { on := 2, ground := Ground.phase }, { on := 3, ground := Ground.phase }, { on := 4, ground := Ground.textOnly Departure.lateStores }, { on := 5, ground := Ground.textOnly Departure.lateStoresUnsure }, { on := 6, ground := Ground.phase }, { on := 7, ground := Ground.phase }, { on := 8, ground := Ground.phase }], guard := none }) rfl (fun K' hK' => ?_) AllReadyH.nil
            rw [if_pos (by rfl)]
            refine wp_store_row 119 _ _ rfl _ (rC 16 (bn t)) rfl rfl 119 _ HS269r sizeG rfl (rC_one _ _) ?_
            have HS269a := HS269.setA (bn t)
            refine hK'.out _ _ HS269a.bel (fun _ => ?_)
            clear hK' K'
            try simp only [Act.put, List.setIfInBounds_toArray, List.set_cons_zero, List.set_cons_succ]
            refine wpAnyH_ready (rs := [10]) (by kernel_rfl) (by simp) ?_
            refine AllReadyH.cons (o := { dst := some 6, op := Op.assign (Operand.tmp 14), type := 114, pos := "l6_aes.go:213", after := #[{ on := 5, ground := Ground.data }, { on := 9, ground := Ground.chain }, { on := 0, ground := Ground.phase }, { on := 1, ground := Ground.phase }, { on := 2, ground := Ground.phase }, { on := 3, ground := Ground.phase }, { on := 4, ground := Ground.phase }, { on := 5, ground := Ground.phase }, { on := 6, ground := Ground.phase }, { on := 7, ground := Ground.phase }, { on := 8, ground := Ground.phase }, { on := 9, ground := Ground.phase }], guard := none }) rfl (fun K' hK' => ?_) AllReadyH.nil
            go_simp
            refine hK'.out _ _ HS269a.bel (fun _ => ?_)
            clear hK' K'
            try simp only [Act.put, List.setIfInBounds_toArray, List.set_cons_zero, List.set_cons_succ]
            refine wpAnyH_done (by kernel_rfl) ?_ _
            exact ⟨_, gt, gk, cap, _, v, _, rfl, HS269a⟩
          refine AllReadyH.cons (o := { dst := some 5, op := Op.alloc 119, type := 0, pos := "l6_aes.go:213", after := #[], guard := none }) rfl (fun K' hK' => ?_) AllReadyH.nil
          go_simp
          have HB271 := HB264.alloc HB264.size (.cells #[.int .u8 0, .int .u8 0, .int .u8 0, .int .u8 0, .int .u8 0, .int .u8 0, .int .u8 0, .int .u8 0, .int .u8 0, .int .u8 0, .int .u8 0, .int .u8 0, .int .u8 0, .int .u8 0, .int .u8 0, .int .u8 0] 119)
          have aBx270 := HB264.size
          have Tx270 := RBlater Tw263 (below_box _ (.cells #[.int .u8 0, .int .u8 0, .int .u8 0, .int .u8 0, .int .u8 0, .int .u8 0, .int .u8 0, .int .u8 0, .int .u8 0, .int .u8 0, .int .u8 0, .int .u8 0, .int .u8 0, .int .u8 0, .int .u8 0, .int .u8 0] 119))
          have Kx270 := Kw263.later (below_box _ (.cells #[.int .u8 0, .int .u8 0, .int .u8 0, .int .u8 0, .int .u8 0, .int .u8 0, .int .u8 0, .int .u8 0, .int .u8 0, .int .u8 0, .int .u8 0, .int .u8 0, .int .u8 0, .int .u8 0, .int .u8 0, .int .u8 0] 119))
          have Zx270 := Zw263.later (below_box _ (.cells #[.int .u8 0, .int .u8 0, .int .u8 0, .int .u8 0, .int .u8 0, .int .u8 0, .int .u8 0, .int .u8 0, .int .u8 0, .int .u8 0, .int .u8 0, .int .u8 0, .int .u8 0, .int .u8 0, .int .u8 0, .int .u8 0] 119))
          have Rx270 : RB (w263.alloc (.cells #[.int .u8 0, .int .u8 0, .int .u8 0, .int .u8 0, .int .u8 0, .int .u8 0, .int .u8 0, .int .u8 0, .int .u8 0, .int .u8 0, .int .u8 0, .int .u8 0, .int .u8 0, .int .u8 0, .int .u8 0, .int .u8 0] 119)) w263.heap.size 16 119 (fun _ => 0) := by
            rw [zeroG]; exact RB.new w263 16 _ _
          refine hK'.out _ _ HB271 (fun _ => ?_)
          clear hK' K'
          try simp only [Act.put, List.setIfInBounds_toArray, List.set_cons_zero, List.set_cons_succ]
          refine wpAnyH_ready (rs := [5]) (by kernel_rfl) (by simp) ?_
          refine AllReadyH.cons (o := { dst := some 14, op := Op.call { callee := Callee.value (Operand.func 99), args := #[Operand.tmp 13], argTypes := #[9] }, type := 114, pos := "l6_aes.go:213", after := #[{ on := 4, ground := Ground.data }, { on := 3, ground := Ground.chain }], guard := none }) rfl (fun K' hK' => ?_) AllReadyH.nil
          have kBw272 := Kx270.lt
          have aLw272 := Rx270.lt
          have wBw272 := HB271.size
          go_simp
          refine (gridsOf_ok u n _ hu hn).mono ?_
          rintro e w272 ⟨v, rfl, Lw272, HB273'⟩
          have HB273 := HB271.trans (HB273'.mono HB271.size)
          have new272 : ∀ g, v.ownBlock = some g → g ≠ w263.heap.size := fun g hg => by have := (owns_own Lw272 g hg).1; omega
          have Tw272 := RBlater Tx270 HB273'
          have Kw272 := Kx270.later HB273'
          have Rw272 := RBlater Rx270 HB273'
          have Zw272 := Zx270.later HB273'
          refine hK'.out _ _ HB273 (fun _ => ?_)
          clear hK' K'
          try simp only [Act.put, List.setIfInBounds_toArray, List.set_cons_zero, List.set_cons_succ]
          obtain ⟨HS274, HS274r⟩ := HS.start (cap := cap) HB273 Zw272 Tw272 Kw272 Rw272 Lw272 wBw272 kBw272 new272 cBx259 aBx270
          refine wpAnyH_ready (rs := [8]) (by kernel_rfl) (by simp) ?_
          refine AllReadyH.cons (o := { dst := none, op := Op.store 116 (Operand.tmp 4) (Operand.tmp 10), type := 0, pos := "l6_aes.go:213", after := #[{ on := 6, ground := Ground.data }, { on := 1, ground := Ground.data }, { on := 5, ground := Ground.chain }, { on := 0, ground := Ground.phase }, { on := 1, ground := Ground.phase }, { on := 2, ground := Ground.textOnly Departure.lateStores }, { on := 3, ground := Ground.textOnly Departure.lateStoresUnsure }, { on := 4, ground := Ground.textOnly Departure.lateStores }, { on := 5, ground := Ground.textOnly Departure.lateStoresUnsure }, { on := 6, ground := Ground.phase }, { on := 7, ground := Ground.phase }], guard := none }) rfl (fun K' hK' => ?_) AllReadyH.nil
          rw [if_pos (by rfl)]
          refine wp_store_row 116 _ _ rfl _ #[.pointer (some ⟨gt, 0, none⟩), .slice (some ⟨gk, 0, none⟩) 11 cap] rfl rfl 116 _ Zw272 sizeC rfl (oneC _ _ _ _) ?_
          refine hK'.out _ _ HS274.bel (fun _ => ?_)
          clear hK' K'
          try simp only [Act.put, List.setIfInBounds_toArray, List.set_cons_zero, List.set_cons_succ]
          refine wpAnyH_ready (rs := [9]) (by kernel_rfl) (by simp) ?_
          refine AllReadyH.cons (o := { dst := none, op := Op.store 119 (Operand.tmp 5) (Operand.tmp 12), type := 0, pos := "l6_aes.go:213", after := #[{ on := 7, ground := Ground.data }, { on := 3, ground := Ground.data }, { on := 8, ground := Ground.chain }, { on := 0, ground := Ground.phase }, { on := 1, ground := Ground.phase }, { on := 2, ground := Ground.phase }, { on := 3, ground := Ground.phase }, { on := 4, ground := Ground.textOnly Departure.lateStores }, { on := 5, ground := Ground.textOnly Departure.lateStoresUnsure }, { on := 6, ground := Ground.phase }, { on := 7, ground := Ground.phase }, { on := 8, ground := Ground.phase }], guard := none }) rfl (fun K' hK' => ?_) AllReadyH.nil
          rw [if_pos (by rfl)]
          refine wp_store_row 119 _ _ rfl _ (rC 16 (bn t)) rfl rfl 119 _ HS274r sizeG rfl (rC_one _ _) ?_
          have HS274a := HS274.setA (bn t)
          refine hK'.out _ _ HS274a.bel (fun _ => ?_)
          clear hK' K'
          try simp only [Act.put, List.setIfInBounds_toArray, List.set_cons_zero, List.set_cons_succ]
          refine wpAnyH_ready (rs := [10]) (by kernel_rfl) (by simp) ?_
          refine AllReadyH.cons (o := { dst := some 6, op := Op.assign (Operand.tmp 14), type := 114, pos := "l6_aes.go:213", after := #[{ on := 5, ground := Ground.data }, { on := 9, ground := Ground.chain }, { on := 0, ground := Ground.phase }, { on := 1, ground := Ground.phase }, { on := 2, ground := Ground.phase }, { on := 3, ground := Ground.phase }, { on := 4, ground := Ground.phase }, { on := 5, ground := Ground.phase }, { on := 6, ground := Ground.phase }, { on := 7, ground := Ground.phase }, { on := 8, ground := Ground.phase }, { on := 9, ground := Ground.phase }], guard := none }) rfl (fun K' hK' => ?_) AllReadyH.nil
          go_simp
          refine hK'.out _ _ HS274a.bel (fun _ => ?_)
          clear hK' K'
          try simp only [Act.put, List.setIfInBounds_toArray, List.set_cons_zero, List.set_cons_succ]
          refine wpAnyH_done (by kernel_rfl) ?_ _
          exact ⟨_, gt, gk, cap, _, v, _, rfl, HS274a⟩
        refine AllReadyH.cons (o := { dst := some 5, op := Op.alloc 119, type := 0, pos := "l6_aes.go:213", after := #[], guard := none }) rfl (fun K' hK' => ?_) AllReadyH.nil
        go_simp
        have HB276 := HB262.alloc HB262.size (.cells #[.int .u8 0, .int .u8 0, .int .u8 0, .int .u8 0, .int .u8 0, .int .u8 0, .int .u8 0, .int .u8 0, .int .u8 0, .int .u8 0, .int .u8 0, .int .u8 0, .int .u8 0, .int .u8 0, .int .u8 0, .int .u8 0] 119)
        have aBx275 := HB262.size
        have Tx275 := RBlater Tw261 (below_box _ (.cells #[.int .u8 0, .int .u8 0, .int .u8 0, .int .u8 0, .int .u8 0, .int .u8 0, .int .u8 0, .int .u8 0, .int .u8 0, .int .u8 0, .int .u8 0, .int .u8 0, .int .u8 0, .int .u8 0, .int .u8 0, .int .u8 0] 119))
        have Kx275 := Kw261.later (below_box _ (.cells #[.int .u8 0, .int .u8 0, .int .u8 0, .int .u8 0, .int .u8 0, .int .u8 0, .int .u8 0, .int .u8 0, .int .u8 0, .int .u8 0, .int .u8 0, .int .u8 0, .int .u8 0, .int .u8 0, .int .u8 0, .int .u8 0] 119))
        have Zx275 := Zw261.later (below_box _ (.cells #[.int .u8 0, .int .u8 0, .int .u8 0, .int .u8 0, .int .u8 0, .int .u8 0, .int .u8 0, .int .u8 0, .int .u8 0, .int .u8 0, .int .u8 0, .int .u8 0, .int .u8 0, .int .u8 0, .int .u8 0, .int .u8 0] 119))
        have Rx275 : RB (w261.alloc (.cells #[.int .u8 0, .int .u8 0, .int .u8 0, .int .u8 0, .int .u8 0, .int .u8 0, .int .u8 0, .int .u8 0, .int .u8 0, .int .u8 0, .int .u8 0, .int .u8 0, .int .u8 0, .int .u8 0, .int .u8 0, .int .u8 0] 119)) w261.heap.size 16 119 (fun _ => 0) := by
          rw [zeroG]; exact RB.new w261 16 _ _
        refine hK'.out _ _ HB276 (fun _ => ?_)
        clear hK' K'
        try simp only [Act.put, List.setIfInBounds_toArray, List.set_cons_zero, List.set_cons_succ]
        refine wpAnyH_ready (rs := [3]) (by kernel_rfl) (by simp) ?_
        refine AllReadyH.cons (o := { dst := some 12, op := Op.call { callee := Callee.value (Operand.func 98), args := #[Operand.tmp 11], argTypes := #[9] }, type := 119, pos := "l6_aes.go:213", after := #[{ on := 2, ground := Ground.data }, { on := 1, ground := Ground.chain }], guard := none }) rfl (fun K' hK' => ?_) AllReadyH.nil
        go_simp
        refine (gridOf_ok t _ ht).mono ?_
        rintro e w277 ⟨rfl, HB278'⟩
        have HB278 := HB276.trans (HB278'.mono HB276.size)
        have Tw277 := RBlater Tx275 HB278'
        have Kw277 := Kx275.later HB278'
        have Rw277 := RBlater Rx275 HB278'
        have Zw277 := Zx275.later HB278'
        refine hK'.out _ _ HB278 (fun _ => ?_)
        clear hK' K'
        try simp only [Act.put, List.setIfInBounds_toArray, List.set_cons_zero, List.set_cons_succ]
        refine wpAnyH_ready (rs := [5]) (by kernel_rfl) (by simp) ?_
        refine AllReadyH.cons (o := { dst := some 14, op := Op.call { callee := Callee.value (Operand.func 99), args := #[Operand.tmp 13], argTypes := #[9] }, type := 114, pos := "l6_aes.go:213", after := #[{ on := 4, ground := Ground.data }, { on := 3, ground := Ground.chain }], guard := none }) rfl (fun K' hK' => ?_) AllReadyH.nil
        have kBw279 := Kw277.lt
        have aLw279 := Rw277.lt
        have wBw279 := HB278.size
        go_simp
        refine (gridsOf_ok u n _ hu hn).mono ?_
        rintro e w279 ⟨v, rfl, Lw279, HB280'⟩
        have HB280 := HB278.trans (HB280'.mono HB278.size)
        have new279 : ∀ g, v.ownBlock = some g → g ≠ w261.heap.size := fun g hg => by have := (owns_own Lw279 g hg).1; omega
        have Tw279 := RBlater Tw277 HB280'
        have Kw279 := Kw277.later HB280'
        have Rw279 := RBlater Rw277 HB280'
        have Zw279 := Zw277.later HB280'
        refine hK'.out _ _ HB280 (fun _ => ?_)
        clear hK' K'
        try simp only [Act.put, List.setIfInBounds_toArray, List.set_cons_zero, List.set_cons_succ]
        obtain ⟨HS281, HS281r⟩ := HS.start (cap := cap) HB280 Zw279 Tw279 Kw279 Rw279 Lw279 wBw279 kBw279 new279 cBx259 aBx275
        refine wpAnyH_ready (rs := [8]) (by kernel_rfl) (by simp) ?_
        refine AllReadyH.cons (o := { dst := none, op := Op.store 116 (Operand.tmp 4) (Operand.tmp 10), type := 0, pos := "l6_aes.go:213", after := #[{ on := 6, ground := Ground.data }, { on := 1, ground := Ground.data }, { on := 5, ground := Ground.chain }, { on := 0, ground := Ground.phase }, { on := 1, ground := Ground.phase }, { on := 2, ground := Ground.textOnly Departure.lateStores }, { on := 3, ground := Ground.textOnly Departure.lateStoresUnsure }, { on := 4, ground := Ground.textOnly Departure.lateStores }, { on := 5, ground := Ground.textOnly Departure.lateStoresUnsure }, { on := 6, ground := Ground.phase }, { on := 7, ground := Ground.phase }], guard := none }) rfl (fun K' hK' => ?_) AllReadyH.nil
        rw [if_pos (by rfl)]
        refine wp_store_row 116 _ _ rfl _ #[.pointer (some ⟨gt, 0, none⟩), .slice (some ⟨gk, 0, none⟩) 11 cap] rfl rfl 116 _ Zw279 sizeC rfl (oneC _ _ _ _) ?_
        refine hK'.out _ _ HS281.bel (fun _ => ?_)
        clear hK' K'
        try simp only [Act.put, List.setIfInBounds_toArray, List.set_cons_zero, List.set_cons_succ]
        refine wpAnyH_ready (rs := [9]) (by kernel_rfl) (by simp) ?_
        refine AllReadyH.cons (o := { dst := none, op := Op.store 119 (Operand.tmp 5) (Operand.tmp 12), type := 0, pos := "l6_aes.go:213", after := #[{ on := 7, ground := Ground.data }, { on := 3, ground := Ground.data }, { on := 8, ground := Ground.chain }, { on := 0, ground := Ground.phase }, { on := 1, ground := Ground.phase }, { on := 2, ground := Ground.phase }, { on := 3, ground := Ground.phase }, { on := 4, ground := Ground.textOnly Departure.lateStores }, { on := 5, ground := Ground.textOnly Departure.lateStoresUnsure }, { on := 6, ground := Ground.phase }, { on := 7, ground := Ground.phase }, { on := 8, ground := Ground.phase }], guard := none }) rfl (fun K' hK' => ?_) AllReadyH.nil
        rw [if_pos (by rfl)]
        refine wp_store_row 119 _ _ rfl _ (rC 16 (bn t)) rfl rfl 119 _ HS281r sizeG rfl (rC_one _ _) ?_
        have HS281a := HS281.setA (bn t)
        refine hK'.out _ _ HS281a.bel (fun _ => ?_)
        clear hK' K'
        try simp only [Act.put, List.setIfInBounds_toArray, List.set_cons_zero, List.set_cons_succ]
        refine wpAnyH_ready (rs := [10]) (by kernel_rfl) (by simp) ?_
        refine AllReadyH.cons (o := { dst := some 6, op := Op.assign (Operand.tmp 14), type := 114, pos := "l6_aes.go:213", after := #[{ on := 5, ground := Ground.data }, { on := 9, ground := Ground.chain }, { on := 0, ground := Ground.phase }, { on := 1, ground := Ground.phase }, { on := 2, ground := Ground.phase }, { on := 3, ground := Ground.phase }, { on := 4, ground := Ground.phase }, { on := 5, ground := Ground.phase }, { on := 6, ground := Ground.phase }, { on := 7, ground := Ground.phase }, { on := 8, ground := Ground.phase }, { on := 9, ground := Ground.phase }], guard := none }) rfl (fun K' hK' => ?_) AllReadyH.nil
        go_simp
        refine hK'.out _ _ HS281a.bel (fun _ => ?_)
        clear hK' K'
        try simp only [Act.put, List.setIfInBounds_toArray, List.set_cons_zero, List.set_cons_succ]
        refine wpAnyH_done (by kernel_rfl) ?_ _
        exact ⟨_, gt, gk, cap, _, v, _, rfl, HS281a⟩
      refine AllReadyH.cons (o := { dst := some 5, op := Op.alloc 119, type := 0, pos := "l6_aes.go:213", after := #[], guard := none }) rfl (fun K' hK' => ?_) AllReadyH.nil
      go_simp
      have HB283 := HB260.alloc HB260.size (.cells #[.int .u8 0, .int .u8 0, .int .u8 0, .int .u8 0, .int .u8 0, .int .u8 0, .int .u8 0, .int .u8 0, .int .u8 0, .int .u8 0, .int .u8 0, .int .u8 0, .int .u8 0, .int .u8 0, .int .u8 0, .int .u8 0] 119)
      have aBx282 := HB260.size
      have Zx282 := Zx259.later (below_box _ (.cells #[.int .u8 0, .int .u8 0, .int .u8 0, .int .u8 0, .int .u8 0, .int .u8 0, .int .u8 0, .int .u8 0, .int .u8 0, .int .u8 0, .int .u8 0, .int .u8 0, .int .u8 0, .int .u8 0, .int .u8 0, .int .u8 0] 119))
      have Rx282 : RB ((w.drew.alloc (.cells #[.pointer none, .slice none 0 0] 116)).alloc (.cells #[.int .u8 0, .int .u8 0, .int .u8 0, .int .u8 0, .int .u8 0, .int .u8 0, .int .u8 0, .int .u8 0, .int .u8 0, .int .u8 0, .int .u8 0, .int .u8 0, .int .u8 0, .int .u8 0, .int .u8 0, .int .u8 0] 119)) (w.drew.alloc (.cells #[.pointer none, .slice none 0 0] 116)).heap.size 16 119 (fun _ => 0) := by
        rw [zeroG]; exact RB.new (w.drew.alloc (.cells #[.pointer none, .slice none 0 0] 116)) 16 _ _
      have qx282 : (w.drew.alloc (.cells #[.pointer none, .slice none 0 0] 116)).heap.size = (w.drew.heap.size + 1) := by simp
      rw [qx282] at Rx282 aBx282
      refine hK'.out _ _ HB283 (fun _ => ?_)
      clear hK' K'
      try simp only [Act.put, List.setIfInBounds_toArray, List.set_cons_zero, List.set_cons_succ]
      refine wpAnyH_ready (rs := [1]) (by kernel_rfl) (by simp) ?_
      refine AllReadyH.cons (o := { dst := some 10, op := Op.call { callee := Callee.value (Operand.func 97), args := #[Operand.tmp 9], argTypes := #[9] }, type := 116, pos := "l6_aes.go:213", after := #[{ on := 0, ground := Ground.data }], guard := none }) rfl (fun K' hK' => ?_) AllReadyH.nil
      go_simp
      refine (cipherOf_ok s _ hs).mono ?_
      rintro e w284 ⟨gt, gk, cap, rfl, Tw284, Kw284, HB285'⟩
      have HB285 := HB283.trans (HB285'.mono HB283.size)
      have Rw284 := RBlater Rx282 HB285'
      have Zw284 := Zx282.later HB285'
      refine hK'.out _ _ HB285 (fun _ => ?_)
      clear hK' K'
      try simp only [Act.put, List.setIfInBounds_toArray, List.set_cons_zero, List.set_cons_succ]
      refine wpAnyH_ready (rs := [3]) (by kernel_rfl) (by simp) ?_
      refine AllReadyH.cons (o := { dst := some 12, op := Op.call { callee := Callee.value (Operand.func 98), args := #[Operand.tmp 11], argTypes := #[9] }, type := 119, pos := "l6_aes.go:213", after := #[{ on := 2, ground := Ground.data }, { on := 1, ground := Ground.chain }], guard := none }) rfl (fun K' hK' => ?_) AllReadyH.nil
      go_simp
      refine (gridOf_ok t _ ht).mono ?_
      rintro e w286 ⟨rfl, HB287'⟩
      have HB287 := HB285.trans (HB287'.mono HB285.size)
      have Tw286 := RBlater Tw284 HB287'
      have Kw286 := Kw284.later HB287'
      have Rw286 := RBlater Rw284 HB287'
      have Zw286 := Zw284.later HB287'
      refine hK'.out _ _ HB287 (fun _ => ?_)
      clear hK' K'
      try simp only [Act.put, List.setIfInBounds_toArray, List.set_cons_zero, List.set_cons_succ]
      refine wpAnyH_ready (rs := [5]) (by kernel_rfl) (by simp) ?_
      refine AllReadyH.cons (o := { dst := some 14, op := Op.call { callee := Callee.value (Operand.func 99), args := #[Operand.tmp 13], argTypes := #[9] }, type := 114, pos := "l6_aes.go:213", after := #[{ on := 4, ground := Ground.data }, { on := 3, ground := Ground.chain }], guard := none }) rfl (fun K' hK' => ?_) AllReadyH.nil
      have kBw288 := Kw286.lt
      have aLw288 := Rw286.lt
      have wBw288 := HB287.size
      go_simp
      refine (gridsOf_ok u n _ hu hn).mono ?_
      rintro e w288 ⟨v, rfl, Lw288, HB289'⟩
      have HB289 := HB287.trans (HB289'.mono HB287.size)
      have new288 : ∀ g, v.ownBlock = some g → g ≠ (w.drew.heap.size + 1) := fun g hg => by have := (owns_own Lw288 g hg).1; omega
      have Tw288 := RBlater Tw286 HB289'
      have Kw288 := Kw286.later HB289'
      have Rw288 := RBlater Rw286 HB289'
      have Zw288 := Zw286.later HB289'
      refine hK'.out _ _ HB289 (fun _ => ?_)
      clear hK' K'
      try simp only [Act.put, List.setIfInBounds_toArray, List.set_cons_zero, List.set_cons_succ]
      obtain ⟨HS290, HS290r⟩ := HS.start (cap := cap) HB289 Zw288 Tw288 Kw288 Rw288 Lw288 wBw288 kBw288 new288 cBx259 aBx282
      refine wpAnyH_ready (rs := [8]) (by kernel_rfl) (by simp) ?_
      refine AllReadyH.cons (o := { dst := none, op := Op.store 116 (Operand.tmp 4) (Operand.tmp 10), type := 0, pos := "l6_aes.go:213", after := #[{ on := 6, ground := Ground.data }, { on := 1, ground := Ground.data }, { on := 5, ground := Ground.chain }, { on := 0, ground := Ground.phase }, { on := 1, ground := Ground.phase }, { on := 2, ground := Ground.textOnly Departure.lateStores }, { on := 3, ground := Ground.textOnly Departure.lateStoresUnsure }, { on := 4, ground := Ground.textOnly Departure.lateStores }, { on := 5, ground := Ground.textOnly Departure.lateStoresUnsure }, { on := 6, ground := Ground.phase }, { on := 7, ground := Ground.phase }], guard := none }) rfl (fun K' hK' => ?_) AllReadyH.nil
      rw [if_pos (by rfl)]
      refine wp_store_row 116 _ _ rfl _ #[.pointer (some ⟨gt, 0, none⟩), .slice (some ⟨gk, 0, none⟩) 11 cap] rfl rfl 116 _ Zw288 sizeC rfl (oneC _ _ _ _) ?_
      refine hK'.out _ _ HS290.bel (fun _ => ?_)
      clear hK' K'
      try simp only [Act.put, List.setIfInBounds_toArray, List.set_cons_zero, List.set_cons_succ]
      refine wpAnyH_ready (rs := [9]) (by kernel_rfl) (by simp) ?_
      refine AllReadyH.cons (o := { dst := none, op := Op.store 119 (Operand.tmp 5) (Operand.tmp 12), type := 0, pos := "l6_aes.go:213", after := #[{ on := 7, ground := Ground.data }, { on := 3, ground := Ground.data }, { on := 8, ground := Ground.chain }, { on := 0, ground := Ground.phase }, { on := 1, ground := Ground.phase }, { on := 2, ground := Ground.phase }, { on := 3, ground := Ground.phase }, { on := 4, ground := Ground.textOnly Departure.lateStores }, { on := 5, ground := Ground.textOnly Departure.lateStoresUnsure }, { on := 6, ground := Ground.phase }, { on := 7, ground := Ground.phase }, { on := 8, ground := Ground.phase }], guard := none }) rfl (fun K' hK' => ?_) AllReadyH.nil
      rw [if_pos (by rfl)]
      refine wp_store_row 119 _ _ rfl _ (rC 16 (bn t)) rfl rfl 119 _ HS290r sizeG rfl (rC_one _ _) ?_
      have HS290a := HS290.setA (bn t)
      refine hK'.out _ _ HS290a.bel (fun _ => ?_)
      clear hK' K'
      try simp only [Act.put, List.setIfInBounds_toArray, List.set_cons_zero, List.set_cons_succ]
      refine wpAnyH_ready (rs := [10]) (by kernel_rfl) (by simp) ?_
      refine AllReadyH.cons (o := { dst := some 6, op := Op.assign (Operand.tmp 14), type := 114, pos := "l6_aes.go:213", after := #[{ on := 5, ground := Ground.data }, { on := 9, ground := Ground.chain }, { on := 0, ground := Ground.phase }, { on := 1, ground := Ground.phase }, { on := 2, ground := Ground.phase }, { on := 3, ground := Ground.phase }, { on := 4, ground := Ground.phase }, { on := 5, ground := Ground.phase }, { on := 6, ground := Ground.phase }, { on := 7, ground := Ground.phase }, { on := 8, ground := Ground.phase }, { on := 9, ground := Ground.phase }], guard := none }) rfl (fun K' hK' => ?_) AllReadyH.nil
      go_simp
      refine hK'.out _ _ HS290a.bel (fun _ => ?_)
      clear hK' K'
      try simp only [Act.put, List.setIfInBounds_toArray, List.set_cons_zero, List.set_cons_succ]
      refine wpAnyH_done (by kernel_rfl) ?_ _
      exact ⟨_, gt, gk, cap, _, v, _, rfl, HS290a⟩
    refine AllReadyH.cons (o := { dst := some 5, op := Op.alloc 119, type := 0, pos := "l6_aes.go:213", after := #[], guard := none }) rfl (fun K' hK' => ?_) AllReadyH.nil
    go_simp
    have HB292 := H0.alloc H0.size (.cells #[.int .u8 0, .int .u8 0, .int .u8 0, .int .u8 0, .int .u8 0, .int .u8 0, .int .u8 0, .int .u8 0, .int .u8 0, .int .u8 0, .int .u8 0, .int .u8 0, .int .u8 0, .int .u8 0, .int .u8 0, .int .u8 0] 119)
    have aBx291 := H0.size
    have Rx291 : RB (w.drew.alloc (.cells #[.int .u8 0, .int .u8 0, .int .u8 0, .int .u8 0, .int .u8 0, .int .u8 0, .int .u8 0, .int .u8 0, .int .u8 0, .int .u8 0, .int .u8 0, .int .u8 0, .int .u8 0, .int .u8 0, .int .u8 0, .int .u8 0] 119)) w.drew.heap.size 16 119 (fun _ => 0) := by
      rw [zeroG]; exact RB.new w.drew 16 _ _
    refine hK'.out _ _ HB292 (fun _ => ?_)
    clear hK' K'
    try simp only [Act.put, List.setIfInBounds_toArray, List.set_cons_zero, List.set_cons_succ]
    refine wpAnyH_ready (rs := [1, 6]) (by kernel_rfl) (by simp) ?_
    refine AllReadyH.cons (o := { dst := some 10, op := Op.call { callee := Callee.value (Operand.func 97), args := #[Operand.tmp 9], argTypes := #[9] }, type := 116, pos := "l6_aes.go:213", after := #[{ on := 0, ground := Ground.data }], guard := none }) rfl (fun K' hK' => ?_) ?_
    · go_simp
      refine (cipherOf_ok s _ hs).mono ?_
      rintro e w293 ⟨gt, gk, cap, rfl, Tw293, Kw293, HB294'⟩
      have HB294 := HB292.trans (HB294'.mono HB292.size)
      have Rw293 := RBlater Rx291 HB294'
      refine hK'.out _ _ HB294 (fun _ => ?_)
      clear hK' K'
      try simp only [Act.put, List.setIfInBounds_toArray, List.set_cons_zero, List.set_cons_succ]
      refine wpAnyH_ready (rs := [3, 6]) (by kernel_rfl) (by simp) ?_
      refine AllReadyH.cons (o := { dst := some 12, op := Op.call { callee := Callee.value (Operand.func 98), args := #[Operand.tmp 11], argTypes := #[9] }, type := 119, pos := "l6_aes.go:213", after := #[{ on := 2, ground := Ground.data }, { on := 1, ground := Ground.chain }], guard := none }) rfl (fun K' hK' => ?_) ?_
      · go_simp
        refine (gridOf_ok t _ ht).mono ?_
        rintro e w295 ⟨rfl, HB296'⟩
        have HB296 := HB294.trans (HB296'.mono HB294.size)
        have Tw295 := RBlater Tw293 HB296'
        have Kw295 := Kw293.later HB296'
        have Rw295 := RBlater Rw293 HB296'
        refine hK'.out _ _ HB296 (fun _ => ?_)
        clear hK' K'
        try simp only [Act.put, List.setIfInBounds_toArray, List.set_cons_zero, List.set_cons_succ]
        refine wpAnyH_ready (rs := [5, 6]) (by kernel_rfl) (by simp) ?_
        refine AllReadyH.cons (o := { dst := some 14, op := Op.call { callee := Callee.value (Operand.func 99), args := #[Operand.tmp 13], argTypes := #[9] }, type := 114, pos := "l6_aes.go:213", after := #[{ on := 4, ground := Ground.data }, { on := 3, ground := Ground.chain }], guard := none }) rfl (fun K' hK' => ?_) ?_
        · have kBw297 := Kw295.lt
          have aLw297 := Rw295.lt
          have wBw297 := HB296.size
          go_simp
          refine (gridsOf_ok u n _ hu hn).mono ?_
          rintro e w297 ⟨v, rfl, Lw297, HB298'⟩
          have HB298 := HB296.trans (HB298'.mono HB296.size)
          have new297 : ∀ g, v.ownBlock = some g → g ≠ w.drew.heap.size := fun g hg => by have := (owns_own Lw297 g hg).1; omega
          have Tw297 := RBlater Tw295 HB298'
          have Kw297 := Kw295.later HB298'
          have Rw297 := RBlater Rw295 HB298'
          refine hK'.out _ _ HB298 (fun _ => ?_)
          clear hK' K'
          try simp only [Act.put, List.setIfInBounds_toArray, List.set_cons_zero, List.set_cons_succ]
          refine wpAnyH_ready (rs := [6]) (by kernel_rfl) (by simp) ?_
          refine AllReadyH.cons (o := { dst := some 4, op := Op.alloc 116, type := 0, pos := "l6_aes.go:213", after := #[], guard := none }) rfl (fun K' hK' => ?_) AllReadyH.nil
          go_simp
          have HB300 := HB298.alloc HB298.size (.cells #[.pointer none, .slice none 0 0] 116)
          have cBx299 := HB298.size
          have Tx299 := RBlater Tw297 (below_box _ (.cells #[.pointer none, .slice none 0 0] 116))
          have Kx299 := Kw297.later (below_box _ (.cells #[.pointer none, .slice none 0 0] 116))
          have Rx299 := RBlater Rw297 (below_box _ (.cells #[.pointer none, .slice none 0 0] 116))
          have Lx299 := owns_below Lw297 (below_box _ (.cells #[.pointer none, .slice none 0 0] 116))
          have Zx299 := CZ.new w297
          refine hK'.out _ _ HB300 (fun _ => ?_)
          clear hK' K'
          try simp only [Act.put, List.setIfInBounds_toArray, List.set_cons_zero, List.set_cons_succ]
          obtain ⟨HS301, HS301r⟩ := HS.start (cap := cap) HB300 Zx299 Tx299 Kx299 Rx299 Lx299 wBw297 kBw297 new297 cBx299 aBx291
          refine wpAnyH_ready (rs := [8]) (by kernel_rfl) (by simp) ?_
          refine AllReadyH.cons (o := { dst := none, op := Op.store 116 (Operand.tmp 4) (Operand.tmp 10), type := 0, pos := "l6_aes.go:213", after := #[{ on := 6, ground := Ground.data }, { on := 1, ground := Ground.data }, { on := 5, ground := Ground.chain }, { on := 0, ground := Ground.phase }, { on := 1, ground := Ground.phase }, { on := 2, ground := Ground.textOnly Departure.lateStores }, { on := 3, ground := Ground.textOnly Departure.lateStoresUnsure }, { on := 4, ground := Ground.textOnly Departure.lateStores }, { on := 5, ground := Ground.textOnly Departure.lateStoresUnsure }, { on := 6, ground := Ground.phase }, { on := 7, ground := Ground.phase }], guard := none }) rfl (fun K' hK' => ?_) AllReadyH.nil
          rw [if_pos (by rfl)]
          refine wp_store_row 116 _ _ rfl _ #[.pointer (some ⟨gt, 0, none⟩), .slice (some ⟨gk, 0, none⟩) 11 cap] rfl rfl 116 _ Zx299 sizeC rfl (oneC _ _ _ _) ?_
          refine hK'.out _ _ HS301.bel (fun _ => ?_)
          clear hK' K'
          try simp only [Act.put, List.setIfInBounds_toArray, List.set_cons_zero, List.set_cons_succ]
          refine wpAnyH_ready (rs := [9]) (by kernel_rfl) (by simp) ?_
          refine AllReadyH.cons (o := { dst := none, op := Op.store 119 (Operand.tmp 5) (Operand.tmp 12), type := 0, pos := "l6_aes.go:213", after := #[{ on := 7, ground := Ground.data }, { on := 3, ground := Ground.data }, { on := 8, ground := Ground.chain }, { on := 0, ground := Ground.phase }, { on := 1, ground := Ground.phase }, { on := 2, ground := Ground.phase }, { on := 3, ground := Ground.phase }, { on := 4, ground := Ground.textOnly Departure.lateStores }, { on := 5, ground := Ground.textOnly Departure.lateStoresUnsure }, { on := 6, ground := Ground.phase }, { on := 7, ground := Ground.phase }, { on := 8, ground := Ground.phase }], guard := none }) rfl (fun K' hK' => ?_) AllReadyH.nil
          rw [if_pos (by rfl)]
          refine wp_store_row 119 _ _ rfl _ (rC 16 (bn t)) rfl rfl 119 _ HS301r sizeG rfl (rC_one _ _) ?_
          have HS301a := HS301.setA (bn t)
          refine hK'.out _ _ HS301a.bel (fun _ => ?_)
          clear hK' K'
          try simp only [Act.put, List.setIfInBounds_toArray, List.set_cons_zero, List.set_cons_succ]
          refine wpAnyH_ready (rs := [10]) (by kernel_rfl) (by simp) ?_
          refine AllReadyH.cons (o := { dst := some 6, op := Op.assign (Operand.tmp 14), type := 114, pos := "l6_aes.go:213", after := #[{ on := 5, ground := Ground.data }, { on := 9, ground := Ground.chain }, { on := 0, ground := Ground.phase }, { on := 1, ground := Ground.phase }, { on := 2, ground := Ground.phase }, { on := 3, ground := Ground.phase }, { on := 4, ground := Ground.phase }, { on := 5, ground := Ground.phase }, { on := 6, ground := Ground.phase }, { on := 7, ground := Ground.phase }, { on := 8, ground := Ground.phase }, { on := 9, ground := Ground.phase }], guard := none }) rfl (fun K' hK' => ?_) AllReadyH.nil
          go_simp
          refine hK'.out _ _ HS301a.bel (fun _ => ?_)
          clear hK' K'
          try simp only [Act.put, List.setIfInBounds_toArray, List.set_cons_zero, List.set_cons_succ]
          refine wpAnyH_done (by kernel_rfl) ?_ _
          exact ⟨_, gt, gk, cap, _, v, _, rfl, HS301a⟩
        refine AllReadyH.cons (o := { dst := some 4, op := Op.alloc 116, type := 0, pos := "l6_aes.go:213", after := #[], guard := none }) rfl (fun K' hK' => ?_) AllReadyH.nil
        go_simp
        have HB303 := HB296.alloc HB296.size (.cells #[.pointer none, .slice none 0 0] 116)
        have cBx302 := HB296.size
        have Tx302 := RBlater Tw295 (below_box _ (.cells #[.pointer none, .slice none 0 0] 116))
        have Kx302 := Kw295.later (below_box _ (.cells #[.pointer none, .slice none 0 0] 116))
        have Rx302 := RBlater Rw295 (below_box _ (.cells #[.pointer none, .slice none 0 0] 116))
        have Zx302 := CZ.new w295
        refine hK'.out _ _ HB303 (fun _ => ?_)
        clear hK' K'
        try simp only [Act.put, List.setIfInBounds_toArray, List.set_cons_zero, List.set_cons_succ]
        refine wpAnyH_ready (rs := [5]) (by kernel_rfl) (by simp) ?_
        refine AllReadyH.cons (o := { dst := some 14, op := Op.call { callee := Callee.value (Operand.func 99), args := #[Operand.tmp 13], argTypes := #[9] }, type := 114, pos := "l6_aes.go:213", after := #[{ on := 4, ground := Ground.data }, { on := 3, ground := Ground.chain }], guard := none }) rfl (fun K' hK' => ?_) AllReadyH.nil
        have kBw304 := Kx302.lt
        have aLw304 := Rx302.lt
        have wBw304 := HB303.size
        go_simp
        refine (gridsOf_ok u n _ hu hn).mono ?_
        rintro e w304 ⟨v, rfl, Lw304, HB305'⟩
        have HB305 := HB303.trans (HB305'.mono HB303.size)
        have new304 : ∀ g, v.ownBlock = some g → g ≠ w.drew.heap.size := fun g hg => by have := (owns_own Lw304 g hg).1; omega
        have Tw304 := RBlater Tx302 HB305'
        have Kw304 := Kx302.later HB305'
        have Rw304 := RBlater Rx302 HB305'
        have Zw304 := Zx302.later HB305'
        refine hK'.out _ _ HB305 (fun _ => ?_)
        clear hK' K'
        try simp only [Act.put, List.setIfInBounds_toArray, List.set_cons_zero, List.set_cons_succ]
        obtain ⟨HS306, HS306r⟩ := HS.start (cap := cap) HB305 Zw304 Tw304 Kw304 Rw304 Lw304 wBw304 kBw304 new304 cBx302 aBx291
        refine wpAnyH_ready (rs := [8]) (by kernel_rfl) (by simp) ?_
        refine AllReadyH.cons (o := { dst := none, op := Op.store 116 (Operand.tmp 4) (Operand.tmp 10), type := 0, pos := "l6_aes.go:213", after := #[{ on := 6, ground := Ground.data }, { on := 1, ground := Ground.data }, { on := 5, ground := Ground.chain }, { on := 0, ground := Ground.phase }, { on := 1, ground := Ground.phase }, { on := 2, ground := Ground.textOnly Departure.lateStores }, { on := 3, ground := Ground.textOnly Departure.lateStoresUnsure }, { on := 4, ground := Ground.textOnly Departure.lateStores }, { on := 5, ground := Ground.textOnly Departure.lateStoresUnsure }, { on := 6, ground := Ground.phase }, { on := 7, ground := Ground.phase }], guard := none }) rfl (fun K' hK' => ?_) AllReadyH.nil
        rw [if_pos (by rfl)]
        refine wp_store_row 116 _ _ rfl _ #[.pointer (some ⟨gt, 0, none⟩), .slice (some ⟨gk, 0, none⟩) 11 cap] rfl rfl 116 _ Zw304 sizeC rfl (oneC _ _ _ _) ?_
        refine hK'.out _ _ HS306.bel (fun _ => ?_)
        clear hK' K'
        try simp only [Act.put, List.setIfInBounds_toArray, List.set_cons_zero, List.set_cons_succ]
        refine wpAnyH_ready (rs := [9]) (by kernel_rfl) (by simp) ?_
        refine AllReadyH.cons (o := { dst := none, op := Op.store 119 (Operand.tmp 5) (Operand.tmp 12), type := 0, pos := "l6_aes.go:213", after := #[{ on := 7, ground := Ground.data }, { on := 3, ground := Ground.data }, { on := 8, ground := Ground.chain }, { on := 0, ground := Ground.phase }, { on := 1, ground := Ground.phase }, { on := 2, ground := Ground.phase }, { on := 3, ground := Ground.phase }, { on := 4, ground := Ground.textOnly Departure.lateStores }, { on := 5, ground := Ground.textOnly Departure.lateStoresUnsure }, { on := 6, ground := Ground.phase }, { on := 7, ground := Ground.phase }, { on := 8, ground := Ground.phase }], guard := none }) rfl (fun K' hK' => ?_) AllReadyH.nil
        rw [if_pos (by rfl)]
        refine wp_store_row 119 _ _ rfl _ (rC 16 (bn t)) rfl rfl 119 _ HS306r sizeG rfl (rC_one _ _) ?_
        have HS306a := HS306.setA (bn t)
        refine hK'.out _ _ HS306a.bel (fun _ => ?_)
        clear hK' K'
        try simp only [Act.put, List.setIfInBounds_toArray, List.set_cons_zero, List.set_cons_succ]
        refine wpAnyH_ready (rs := [10]) (by kernel_rfl) (by simp) ?_
        refine AllReadyH.cons (o := { dst := some 6, op := Op.assign (Operand.tmp 14), type := 114, pos := "l6_aes.go:213", after := #[{ on := 5, ground := Ground.data }, { on := 9, ground := Ground.chain }, { on := 0, ground := Ground.phase }, { on := 1, ground := Ground.phase }, { on := 2, ground := Ground.phase }, { on := 3, ground := Ground.phase }, { on := 4, ground := Ground.phase }, { on := 5, ground := Ground.phase }, { on := 6, ground := Ground.phase }, { on := 7, ground := Ground.phase }, { on := 8, ground := Ground.phase }, { on := 9, ground := Ground.phase }], guard := none }) rfl (fun K' hK' => ?_) AllReadyH.nil
        go_simp
        refine hK'.out _ _ HS306a.bel (fun _ => ?_)
        clear hK' K'
        try simp only [Act.put, List.setIfInBounds_toArray, List.set_cons_zero, List.set_cons_succ]
        refine wpAnyH_done (by kernel_rfl) ?_ _
        exact ⟨_, gt, gk, cap, _, v, _, rfl, HS306a⟩
      refine AllReadyH.cons (o := { dst := some 4, op := Op.alloc 116, type := 0, pos := "l6_aes.go:213", after := #[], guard := none }) rfl (fun K' hK' => ?_) AllReadyH.nil
      go_simp
      have HB308 := HB294.alloc HB294.size (.cells #[.pointer none, .slice none 0 0] 116)
      have cBx307 := HB294.size
      have Tx307 := RBlater Tw293 (below_box _ (.cells #[.pointer none, .slice none 0 0] 116))
      have Kx307 := Kw293.later (below_box _ (.cells #[.pointer none, .slice none 0 0] 116))
      have Rx307 := RBlater Rw293 (below_box _ (.cells #[.pointer none, .slice none 0 0] 116))
      have Zx307 := CZ.new w293
      refine hK'.out _ _ HB308 (fun _ => ?_)
      clear hK' K'
      try simp only [Act.put, List.setIfInBounds_toArray, List.set_cons_zero, List.set_cons_succ]
      refine wpAnyH_ready (rs := [3]) (by kernel_rfl) (by simp) ?_
      refine AllReadyH.cons (o := { dst := some 12, op := Op.call { callee := Callee.value (Operand.func 98), args := #[Operand.tmp 11], argTypes := #[9] }, type := 119, pos := "l6_aes.go:213", after := #[{ on := 2, ground := Ground.data }, { on := 1, ground := Ground.chain }], guard := none }) rfl (fun K' hK' => ?_) AllReadyH.nil
      go_simp
      refine (gridOf_ok t _ ht).mono ?_
      rintro e w309 ⟨rfl, HB310'⟩
      have HB310 := HB308.trans (HB310'.mono HB308.size)
      have Tw309 := RBlater Tx307 HB310'
      have Kw309 := Kx307.later HB310'
      have Rw309 := RBlater Rx307 HB310'
      have Zw309 := Zx307.later HB310'
      refine hK'.out _ _ HB310 (fun _ => ?_)
      clear hK' K'
      try simp only [Act.put, List.setIfInBounds_toArray, List.set_cons_zero, List.set_cons_succ]
      refine wpAnyH_ready (rs := [5]) (by kernel_rfl) (by simp) ?_
      refine AllReadyH.cons (o := { dst := some 14, op := Op.call { callee := Callee.value (Operand.func 99), args := #[Operand.tmp 13], argTypes := #[9] }, type := 114, pos := "l6_aes.go:213", after := #[{ on := 4, ground := Ground.data }, { on := 3, ground := Ground.chain }], guard := none }) rfl (fun K' hK' => ?_) AllReadyH.nil
      have kBw311 := Kw309.lt
      have aLw311 := Rw309.lt
      have wBw311 := HB310.size
      go_simp
      refine (gridsOf_ok u n _ hu hn).mono ?_
      rintro e w311 ⟨v, rfl, Lw311, HB312'⟩
      have HB312 := HB310.trans (HB312'.mono HB310.size)
      have new311 : ∀ g, v.ownBlock = some g → g ≠ w.drew.heap.size := fun g hg => by have := (owns_own Lw311 g hg).1; omega
      have Tw311 := RBlater Tw309 HB312'
      have Kw311 := Kw309.later HB312'
      have Rw311 := RBlater Rw309 HB312'
      have Zw311 := Zw309.later HB312'
      refine hK'.out _ _ HB312 (fun _ => ?_)
      clear hK' K'
      try simp only [Act.put, List.setIfInBounds_toArray, List.set_cons_zero, List.set_cons_succ]
      obtain ⟨HS313, HS313r⟩ := HS.start (cap := cap) HB312 Zw311 Tw311 Kw311 Rw311 Lw311 wBw311 kBw311 new311 cBx307 aBx291
      refine wpAnyH_ready (rs := [8]) (by kernel_rfl) (by simp) ?_
      refine AllReadyH.cons (o := { dst := none, op := Op.store 116 (Operand.tmp 4) (Operand.tmp 10), type := 0, pos := "l6_aes.go:213", after := #[{ on := 6, ground := Ground.data }, { on := 1, ground := Ground.data }, { on := 5, ground := Ground.chain }, { on := 0, ground := Ground.phase }, { on := 1, ground := Ground.phase }, { on := 2, ground := Ground.textOnly Departure.lateStores }, { on := 3, ground := Ground.textOnly Departure.lateStoresUnsure }, { on := 4, ground := Ground.textOnly Departure.lateStores }, { on := 5, ground := Ground.textOnly Departure.lateStoresUnsure }, { on := 6, ground := Ground.phase }, { on := 7, ground := Ground.phase }], guard := none }) rfl (fun K' hK' => ?_) AllReadyH.nil
      rw [if_pos (by rfl)]
      refine wp_store_row 116 _ _ rfl _ #[.pointer (some ⟨gt, 0, none⟩), .slice (some ⟨gk, 0, none⟩) 11 cap] rfl rfl 116 _ Zw311 sizeC rfl (oneC _ _ _ _) ?_
      refine hK'.out _ _ HS313.bel (fun _ => ?_)
      clear hK' K'
      try simp only [Act.put, List.setIfInBounds_toArray, List.set_cons_zero, List.set_cons_succ]
      refine wpAnyH_ready (rs := [9]) (by kernel_rfl) (by simp) ?_
      refine AllReadyH.cons (o := { dst := none, op := Op.store 119 (Operand.tmp 5) (Operand.tmp 12), type := 0, pos := "l6_aes.go:213", after := #[{ on := 7, ground := Ground.data }, { on := 3, ground := Ground.data }, { on := 8, ground := Ground.chain }, { on := 0, ground := Ground.phase }, { on := 1, ground := Ground.phase }, { on := 2, ground := Ground.phase }, { on := 3, ground := Ground.phase }, { on := 4, ground := Ground.textOnly Departure.lateStores }, { on := 5, ground := Ground.textOnly Departure.lateStoresUnsure }, { on := 6, ground := Ground.phase }, { on := 7, ground := Ground.phase }, { on := 8, ground := Ground.phase }], guard := none }) rfl (fun K' hK' => ?_) AllReadyH.nil
      rw [if_pos (by rfl)]
      refine wp_store_row 119 _ _ rfl _ (rC 16 (bn t)) rfl rfl 119 _ HS313r sizeG rfl (rC_one _ _) ?_
      have HS313a := HS313.setA (bn t)
      refine hK'.out _ _ HS313a.bel (fun _ => ?_)
      clear hK' K'
      try simp only [Act.put, List.setIfInBounds_toArray, List.set_cons_zero, List.set_cons_succ]
      refine wpAnyH_ready (rs := [10]) (by kernel_rfl) (by simp) ?_
      refine AllReadyH.cons (o := { dst := some 6, op := Op.assign (Operand.tmp 14), type := 114, pos := "l6_aes.go:213", after := #[{ on := 5, ground := Ground.data }, { on := 9, ground := Ground.chain }, { on := 0, ground := Ground.phase }, { on := 1, ground := Ground.phase }, { on := 2, ground := Ground.phase }, { on := 3, ground := Ground.phase }, { on := 4, ground := Ground.phase }, { on := 5, ground := Ground.phase }, { on := 6, ground := Ground.phase }, { on := 7, ground := Ground.phase }, { on := 8, ground := Ground.phase }, { on := 9, ground := Ground.phase }], guard := none }) rfl (fun K' hK' => ?_) AllReadyH.nil
      go_simp
      refine hK'.out _ _ HS313a.bel (fun _ => ?_)
      clear hK' K'
      try simp only [Act.put, List.setIfInBounds_toArray, List.set_cons_zero, List.set_cons_succ]
      refine wpAnyH_done (by kernel_rfl) ?_ _
      exact ⟨_, gt, gk, cap, _, v, _, rfl, HS313a⟩
    refine AllReadyH.cons (o := { dst := some 4, op := Op.alloc 116, type := 0, pos := "l6_aes.go:213", after := #[], guard := none }) rfl (fun K' hK' => ?_) AllReadyH.nil
    go_simp
    have HB315 := HB292.alloc HB292.size (.cells #[.pointer none, .slice none 0 0] 116)
    have cBx314 := HB292.size
    have Rx314 := RBlater Rx291 (below_box _ (.cells #[.pointer none, .slice none 0 0] 116))
    have qx314 : (w.drew.alloc (.cells #[.int .u8 0, .int .u8 0, .int .u8 0, .int .u8 0, .int .u8 0, .int .u8 0, .int .u8 0, .int .u8 0, .int .u8 0, .int .u8 0, .int .u8 0, .int .u8 0, .int .u8 0, .int .u8 0, .int .u8 0, .int .u8 0] 119)).heap.size = (w.drew.heap.size + 1) := by simp
    have Zx314 : CZ ((w.drew.alloc (.cells #[.int .u8 0, .int .u8 0, .int .u8 0, .int .u8 0, .int .u8 0, .int .u8 0, .int .u8 0, .int .u8 0, .int .u8 0, .int .u8 0, .int .u8 0, .int .u8 0, .int .u8 0, .int .u8 0, .int .u8 0, .int .u8 0] 119)).alloc (.cells #[.pointer none, .slice none 0 0] 116)) (w.drew.heap.size + 1) := by have := CZ.new (w.drew.alloc (.cells #[.int .u8 0, .int .u8 0, .int .u8 0, .int .u8 0, .int .u8 0, .int .u8 0, .int .u8 0, .int .u8 0, .int .u8 0, .int .u8 0, .int .u8 0, .int .u8 0, .int .u8 0, .int .u8 0, .int .u8 0, .int .u8 0] 119)); rw [qx314] at this; exact this
    rw [qx314] at cBx314
    refine hK'.out _ _ HB315 (fun _ => ?_)
    clear hK' K'
    try simp only [Act.put, List.setIfInBounds_toArray, List.set_cons_zero, List.set_cons_succ]
    refine wpAnyH_ready (rs := [1]) (by kernel_rfl) (by simp) ?_
    refine AllReadyH.cons (o := { dst := some 10, op := Op.call { callee := Callee.value (Operand.func 97), args := #[Operand.tmp 9], argTypes := #[9] }, type := 116, pos := "l6_aes.go:213", after := #[{ on := 0, ground := Ground.data }], guard := none }) rfl (fun K' hK' => ?_) AllReadyH.nil
    go_simp
    refine (cipherOf_ok s _ hs).mono ?_
    rintro e w316 ⟨gt, gk, cap, rfl, Tw316, Kw316, HB317'⟩
    have HB317 := HB315.trans (HB317'.mono HB315.size)
    have Rw316 := RBlater Rx314 HB317'
    have Zw316 := Zx314.later HB317'
    refine hK'.out _ _ HB317 (fun _ => ?_)
    clear hK' K'
    try simp only [Act.put, List.setIfInBounds_toArray, List.set_cons_zero, List.set_cons_succ]
    refine wpAnyH_ready (rs := [3]) (by kernel_rfl) (by simp) ?_
    refine AllReadyH.cons (o := { dst := some 12, op := Op.call { callee := Callee.value (Operand.func 98), args := #[Operand.tmp 11], argTypes := #[9] }, type := 119, pos := "l6_aes.go:213", after := #[{ on := 2, ground := Ground.data }, { on := 1, ground := Ground.chain }], guard := none }) rfl (fun K' hK' => ?_) AllReadyH.nil
    go_simp
    refine (gridOf_ok t _ ht).mono ?_
    rintro e w318 ⟨rfl, HB319'⟩
    have HB319 := HB317.trans (HB319'.mono HB317.size)
    have Tw318 := RBlater Tw316 HB319'
    have Kw318 := Kw316.later HB319'
    have Rw318 := RBlater Rw316 HB319'
    have Zw318 := Zw316.later HB319'
    refine hK'.out _ _ HB319 (fun _ => ?_)
    clear hK' K'
    try simp only [Act.put, List.setIfInBounds_toArray, List.set_cons_zero, List.set_cons_succ]
    refine wpAnyH_ready (rs := [5]) (by kernel_rfl) (by simp) ?_
    refine AllReadyH.cons (o := { dst := some 14, op := Op.call { callee := Callee.value (Operand.func 99), args := #[Operand.tmp 13], argTypes := #[9] }, type := 114, pos := "l6_aes.go:213", after := #[{ on := 4, ground := Ground.data }, { on := 3, ground := Ground.chain }], guard := none }) rfl (fun K' hK' => ?_) AllReadyH.nil
    have kBw320 := Kw318.lt
    have aLw320 := Rw318.lt
    have wBw320 := HB319.size
    go_simp
    refine (gridsOf_ok u n _ hu hn).mono ?_
    rintro e w320 ⟨v, rfl, Lw320, HB321'⟩
    have HB321 := HB319.trans (HB321'.mono HB319.size)
    have new320 : ∀ g, v.ownBlock = some g → g ≠ w.drew.heap.size := fun g hg => by have := (owns_own Lw320 g hg).1; omega
    have Tw320 := RBlater Tw318 HB321'
    have Kw320 := Kw318.later HB321'
    have Rw320 := RBlater Rw318 HB321'
    have Zw320 := Zw318.later HB321'
    refine hK'.out _ _ HB321 (fun _ => ?_)
    clear hK' K'
    try simp only [Act.put, List.setIfInBounds_toArray, List.set_cons_zero, List.set_cons_succ]
    obtain ⟨HS322, HS322r⟩ := HS.start (cap := cap) HB321 Zw320 Tw320 Kw320 Rw320 Lw320 wBw320 kBw320 new320 cBx314 aBx291
    refine wpAnyH_ready (rs := [8]) (by kernel_rfl) (by simp) ?_
    refine AllReadyH.cons (o := { dst := none, op := Op.store 116 (Operand.tmp 4) (Operand.tmp 10), type := 0, pos := "l6_aes.go:213", after := #[{ on := 6, ground := Ground.data }, { on := 1, ground := Ground.data }, { on := 5, ground := Ground.chain }, { on := 0, ground := Ground.phase }, { on := 1, ground := Ground.phase }, { on := 2, ground := Ground.textOnly Departure.lateStores }, { on := 3, ground := Ground.textOnly Departure.lateStoresUnsure }, { on := 4, ground := Ground.textOnly Departure.lateStores }, { on := 5, ground := Ground.textOnly Departure.lateStoresUnsure }, { on := 6, ground := Ground.phase }, { on := 7, ground := Ground.phase }], guard := none }) rfl (fun K' hK' => ?_) AllReadyH.nil
    rw [if_pos (by rfl)]
    refine wp_store_row 116 _ _ rfl _ #[.pointer (some ⟨gt, 0, none⟩), .slice (some ⟨gk, 0, none⟩) 11 cap] rfl rfl 116 _ Zw320 sizeC rfl (oneC _ _ _ _) ?_
    refine hK'.out _ _ HS322.bel (fun _ => ?_)
    clear hK' K'
    try simp only [Act.put, List.setIfInBounds_toArray, List.set_cons_zero, List.set_cons_succ]
    refine wpAnyH_ready (rs := [9]) (by kernel_rfl) (by simp) ?_
    refine AllReadyH.cons (o := { dst := none, op := Op.store 119 (Operand.tmp 5) (Operand.tmp 12), type := 0, pos := "l6_aes.go:213", after := #[{ on := 7, ground := Ground.data }, { on := 3, ground := Ground.data }, { on := 8, ground := Ground.chain }, { on := 0, ground := Ground.phase }, { on := 1, ground := Ground.phase }, { on := 2, ground := Ground.phase }, { on := 3, ground := Ground.phase }, { on := 4, ground := Ground.textOnly Departure.lateStores }, { on := 5, ground := Ground.textOnly Departure.lateStoresUnsure }, { on := 6, ground := Ground.phase }, { on := 7, ground := Ground.phase }, { on := 8, ground := Ground.phase }], guard := none }) rfl (fun K' hK' => ?_) AllReadyH.nil
    rw [if_pos (by rfl)]
    refine wp_store_row 119 _ _ rfl _ (rC 16 (bn t)) rfl rfl 119 _ HS322r sizeG rfl (rC_one _ _) ?_
    have HS322a := HS322.setA (bn t)
    refine hK'.out _ _ HS322a.bel (fun _ => ?_)
    clear hK' K'
    try simp only [Act.put, List.setIfInBounds_toArray, List.set_cons_zero, List.set_cons_succ]
    refine wpAnyH_ready (rs := [10]) (by kernel_rfl) (by simp) ?_
    refine AllReadyH.cons (o := { dst := some 6, op := Op.assign (Operand.tmp 14), type := 114, pos := "l6_aes.go:213", after := #[{ on := 5, ground := Ground.data }, { on := 9, ground := Ground.chain }, { on := 0, ground := Ground.phase }, { on := 1, ground := Ground.phase }, { on := 2, ground := Ground.phase }, { on := 3, ground := Ground.phase }, { on := 4, ground := Ground.phase }, { on := 5, ground := Ground.phase }, { on := 6, ground := Ground.phase }, { on := 7, ground := Ground.phase }, { on := 8, ground := Ground.phase }, { on := 9, ground := Ground.phase }], guard := none }) rfl (fun K' hK' => ?_) AllReadyH.nil
    go_simp
    refine hK'.out _ _ HS322a.bel (fun _ => ?_)
    clear hK' K'
    try simp only [Act.put, List.setIfInBounds_toArray, List.set_cons_zero, List.set_cons_succ]
    refine wpAnyH_done (by kernel_rfl) ?_ _
    exact ⟨_, gt, gk, cap, _, v, _, rfl, HS322a⟩
end Go.Proofs.YtefmmopkikpnhaaGreatDoor

